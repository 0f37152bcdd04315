/-
  What the landed package regs' Set and Add hand back.
-/
import Derived.Test.YtnjognmnbpcaaaaGreatZlai
namespace Go.Proofs.YtnjognmnbpcaaaaGreat
open Go.RowKit
set_option linter.unusedSimpArgs false
theorem rgisReg_any (n : Int) (w : World) :
    Calls Tryz.prog 45 #[.int .i64 n] w fun e w' => e = .returned (.bool (upToV n 3)) ∧ w = w' := by
  unfold upToV
  by_cases h0 : 0 ≤ n
  · by_cases h1 : n ≤ 3
    · rw [decide_eq_true (show 0 ≤ n ∧ n ≤ 3 from ⟨h0, h1⟩)]
      have h2 : n < 4 := by omega
      go_enter Tryz.func45, Tryz.ntmps45
      go_wp2
      go_ret
      exact ⟨rfl, rfl⟩
    · rw [decide_eq_false (show ¬ (0 ≤ n ∧ n ≤ 3) from fun x => h1 x.2)]
      have h2 : ¬ n < 4 := by omega
      go_enter Tryz.func45, Tryz.ntmps45
      go_wp2
      go_ret
      exact ⟨rfl, rfl⟩
  · rw [decide_eq_false (show ¬ (0 ≤ n ∧ n ≤ 3) from fun x => h0 x.1)]
    go_enter Tryz.func45, Tryz.ntmps45
    go_wp2
    go_ret
    exact ⟨rfl, rfl⟩
theorem gmay_any (n : Int) (w : World) :
    Calls Tryz.prog 46 #[.int .i64 n] w fun e w' => e = .returned (.bool (upToV n 255)) ∧ w = w' := by
  unfold upToV
  by_cases h0 : 0 ≤ n
  · by_cases h1 : n ≤ 255
    · rw [decide_eq_true (show 0 ≤ n ∧ n ≤ 255 from ⟨h0, h1⟩)]
      go_enter Tryz.func46, Tryz.ntmps46
      go_wp2
      go_ret
      exact ⟨rfl, rfl⟩
    · rw [decide_eq_false (show ¬ (0 ≤ n ∧ n ≤ 255) from fun x => h1 x.2)]
      go_enter Tryz.func46, Tryz.ntmps46
      go_wp2
      go_ret
      exact ⟨rfl, rfl⟩
  · rw [decide_eq_false (show ¬ (0 ≤ n ∧ n ≤ 255) from fun x => h0 x.1)]
    go_enter Tryz.func46, Tryz.ntmps46
    go_wp2
    go_ret
    exact ⟨rfl, rfl⟩
/-- The function that is handed to the library: a register may not be. -/
theorem glit_any (n : Int) (w : World) :
    Calls Tryz.prog 74 #[.int .i64 n] w fun e w' => e = .returned (.bool (!upToV n 255)) ∧ w = w' := by
  go_enter Tryz.func74, Tryz.ntmps74
  go_wp2_with (go_at_call 46; refine (gmay_any _ _).mono ?_; rintro e w' ⟨rfl, rfl⟩)
  go_ret
  exact ⟨rfl, rfl⟩
/-- The place of the first that may not be, or -1. -/
theorem gidx_any (b : Nat) (c : Nat → Int) (w : World) (h : Blk w b (quadL c)) :
    Calls Tryz.prog 103 #[.slice (some ⟨b, 0, none⟩) 4 4, .func (.func 74) #[] #[]] w fun e w' => (∃ i : Int, e = .returned (.int .i64 i) ∧ (0 ≤ i ↔ allUp c 255 4 = false)) ∧ w = w' := by
  go_enter Tryz.func103, Tryz.ntmps103
  go_wp2
  go_loopw [8] (fun i wr => ∃ k : Nat, k ≤ 4 ∧ i = .int .i64 k ∧ allUp c 255 k = true ∧ w = wr) (fun i _ => 4 - (intOf i).toNat)
  case atStart => exact ⟨0, Nat.zero_le _, rfl, rfl, rfl⟩
  case round =>
    obtain ⟨k, hk, rfl, hs, rfl⟩ := hrel
    have HS := hide hs
    clear hs
    by_cases hlt : k < 4
    · have i1 : (k : Int) < 4 := by omega
      have d0 := h.cell k _ (quadL_get c hlt)
      cases hv : upToV (c k) 255
      · go_wp2_with fail
        refine (glit_any _ _).mono ?_
        rintro e w1 ⟨rfl, rfl⟩
        rw [hv]
        go_wp2
        go_ret
        exact ⟨⟨_, rfl, fun _ => allUp_no k hlt hv, fun _ => by omega⟩, rfl⟩
      · have HN : Hid (allUp c 255 (k + 1) = true) := by
          show allUp c 255 (k + 1) = true
          rw [allUp, HS.out, hv]
          rfl
        go_wp2_with fail
        refine (glit_any _ _).mono ?_
        rintro e w1 ⟨rfl, rfl⟩
        rw [hv]
        go_wp2
        go_roundw
        case rel => exact ⟨k + 1, by omega, by go_num, HN.out, trivial⟩
        case measure => simp [intOf]; omega
    · obtain rfl : k = 4 := by omega
      go_wp2
      go_ret
      exact ⟨⟨_, rfl, fun h => by omega, fun h => by rw [HS.out] at h; cases h⟩, rfl⟩
theorem ghas_any (b : Nat) (c : Nat → Int) (w : World) (h : Blk w b (quadL c)) :
    Calls Tryz.prog 73 #[.slice (some ⟨b, 0, none⟩) 4 4, .func (.func 74) #[] #[]] w fun e w' => e = .returned (.bool (!allUp c 255 4)) ∧ w = w' := by
  go_enter Tryz.func73, Tryz.ntmps73
  go_wp2_with fail
  refine (gidx_any b c _ h).mono ?_
  rintro e w1 ⟨⟨i, rfl, hi⟩, rfl⟩
  have HI := hide hi
  clear hi
  go_wp2
  go_ret
  refine ⟨ret_bool ?_, rfl⟩
  cases e : allUp c 255 4
  · exact decide_eq_true (HI.out.2 e)
  · refine decide_eq_false fun h => ?_
    have := HI.out.1 h
    rw [e] at this
    cases this
theorem gone_any (c : Nat → Int) (w : World) :
    Calls Tryz.prog 44 #[quadA c] w fun e w' => e = .returned (.bool (!allUp c 255 4)) ∧ Below w.heap.size w w' := by
  have B := blk_new w (quadL c) 24
  have C := hide (ghas_any _ c _ B)
  clear B
  unfold quadA
  go_enter Tryz.func44, Tryz.ntmps44
  go_wp2_with fail
  refine C.out.mono ?_
  rintro e w1 ⟨rfl, rfl⟩
  clear C
  go_wp2
  go_ret
  exact ⟨rfl, by go_grown⟩
set_option maxHeartbeats 1000000 in
theorem set_c : SetC := by
  intro c a b w
  cases h1 : allUp c 255 4
  · obtain ⟨e1, e2⟩ := set_no (c := c) (a := a) (v := b) (and3_no1 h1)
    rw [e1, e2]
    unfold quadA
    go_enter Tryz.func21, Tryz.ntmps21
    go_wp2_with fail
    refine (gone_any c _).mono ?_
    rintro e w1 ⟨rfl, hb⟩
    rw [h1]
    have B2 := (blk_new (w.alloc _) _ _).on hb
    rw [World.size_alloc] at B2
    have b1 : Below w.heap.size w w1 := Below.on (by go_grown) hb
    obtain ⟨⟨d0, d1, d2, d3⟩, g0, g1, g2, g3⟩ := B2.four
    clear hb
    go_wp2
    exact bodyPost_ret (v := .tuple #[.agg #[.int .i64 0, .int .i64 0, .int .i64 0, .int .i64 0], .int .i64 600]) (by simp [results, Tryz.results21, go_sem, d0, d1, d2, d3]) rfl ⟨rfl, by go_grown⟩
  cases h2 : upToV a 3 && upToV b 255
  · obtain ⟨e1, e2⟩ := set_no (c := c) (a := a) (v := b) (by unfold setOk; rw [Bool.and_assoc, h2, Bool.and_false])
    rw [e1, e2]
    unfold quadA
    cases ha : upToV a 3 <;> cases hv : upToV b 255 <;> (try (rw [ha, hv] at h2; cases h2; done))
    all_goals
      go_enter Tryz.func21, Tryz.ntmps21
      go_wp2_with fail
      refine (gone_any c _).mono ?_
      rintro e w1 ⟨rfl, hb⟩
      rw [h1]
      have B2 := (blk_new (w.alloc _) _ _).on hb
      rw [World.size_alloc] at B2
      have b1 : Below w.heap.size w w1 := Below.on (by go_grown) hb
      obtain ⟨⟨d0, d1, d2, d3⟩, g0, g1, g2, g3⟩ := B2.four
      clear hb h2
      go_wp2_with (first | (go_at_call 45; refine (rgisReg_any _ _).mono ?_; rintro e w' ⟨rfl, rfl⟩) | (go_at_call 46; refine (gmay_any _ _).mono ?_; rintro e w' ⟨rfl, rfl⟩))
      exact bodyPost_ret (v := .tuple #[.agg #[.int .i64 0, .int .i64 0, .int .i64 0, .int .i64 0], .int .i64 600]) (by simp [results, Tryz.results21, go_sem, d0, d1, d2, d3]) rfl ⟨rfl, by go_grown⟩
  · have hok : setOk c a b = true := by unfold setOk; rw [Bool.and_assoc, h1, h2]; rfl
    obtain ⟨e1, e2⟩ := set_yes hok
    obtain ⟨_, ha, hv⟩ := and3 hok
    rw [e1, e2]
    obtain ⟨ha0, ha1⟩ := upToV_yes ha
    obtain ⟨g, rfl⟩ : ∃ g : Nat, a = g := ⟨a.toNat, by omega⟩
    rw [Int.toNat_natCast]
    have hg : g < 4 := by omega
    have i1 : (g : Int) < 4 := by omega
    clear e1 e2 hok h2
    unfold quadA
    go_enter Tryz.func21, Tryz.ntmps21
    go_wp2_with fail
    refine (gone_any c _).mono ?_
    rintro e w1 ⟨rfl, hb⟩
    rw [h1]
    have B1 := ((blk_new w (quadL c) 24).alloc _).on hb
    have B2 := (blk_new (w.alloc _) _ _).on hb
    rw [World.size_alloc] at B2
    have b1 : Below w.heap.size w w1 := Below.on (by go_grown) hb
    have c1 := B1.cell g _ (quadL_get c hg)
    have f1 := B1.frozen g
    clear hb
    go_upto_region 4 with (first | (go_at_call 45; refine (rgisReg_any _ _).mono ?_; rintro e w' ⟨rfl, rfl⟩) | (go_at_call 46; refine (gmay_any _ _).mono ?_; rintro e w' ⟨rfl, rfl⟩))
    have B1' := B1.set g (.int .i64 b)
    rw [quadL_set c hg] at B1'
    have B2' := B2.far (a := ⟨w.heap.size, g, none⟩) (.int .i64 b) (by simp)
    have b' : Below w.heap.size w (w1.setCell ⟨w.heap.size, g, none⟩ (.int .i64 b)) := b1.setCell (by simp) _
    clear B1 B2 b1 c1 f1
    generalize w1.setCell ⟨w.heap.size, g, none⟩ (.int .i64 b) = W at *
    obtain ⟨⟨c0, c1, c2, c3⟩, f0, f1, f2, f3⟩ := B1'.four
    obtain ⟨⟨d0, d1, d2, d3⟩, g0, g1, g2, g3⟩ := B2'.four
    go_wp2
    exact bodyPost_ret (v := .tuple #[quadA (updQ c g b), .int .i64 0]) (by simp [results, Tryz.results21, go_sem, d0, d1, d2, d3, quadA]) rfl ⟨rfl, by go_grown⟩
set_option maxHeartbeats 1000000 in
theorem add_c : AddC := by
  intro c a b w
  cases h1 : allUp c 255 4
  · obtain ⟨e1, e2⟩ := add_no (c := c) (a := a) (b := b) (and3_no1 h1)
    rw [e1, e2]
    unfold quadA
    go_enter Tryz.func22, Tryz.ntmps22
    go_wp2_with fail
    refine (gone_any c _).mono ?_
    rintro e w1 ⟨rfl, hb⟩
    rw [h1]
    have B2 := (blk_new (w.alloc _) _ _).on hb
    rw [World.size_alloc] at B2
    have b1 : Below w.heap.size w w1 := Below.on (by go_grown) hb
    obtain ⟨⟨d0, d1, d2, d3⟩, g0, g1, g2, g3⟩ := B2.four
    clear hb
    go_wp2
    exact bodyPost_ret (v := .tuple #[.agg #[.int .i64 0, .int .i64 0, .int .i64 0, .int .i64 0], .int .i64 600]) (by simp [results, Tryz.results22, go_sem, d0, d1, d2, d3]) rfl ⟨rfl, by go_grown⟩
  cases h2 : upToV a 3 && upToV b 3
  · obtain ⟨e1, e2⟩ := add_no (c := c) (a := a) (b := b) (by unfold addOk; rw [Bool.and_assoc, h2, Bool.and_false])
    rw [e1, e2]
    unfold quadA
    cases ha : upToV a 3 <;> cases hv : upToV b 3 <;> (try (rw [ha, hv] at h2; cases h2; done))
    all_goals
      go_enter Tryz.func22, Tryz.ntmps22
      go_wp2_with fail
      refine (gone_any c _).mono ?_
      rintro e w1 ⟨rfl, hb⟩
      rw [h1]
      have B2 := (blk_new (w.alloc _) _ _).on hb
      rw [World.size_alloc] at B2
      have b1 : Below w.heap.size w w1 := Below.on (by go_grown) hb
      obtain ⟨⟨d0, d1, d2, d3⟩, g0, g1, g2, g3⟩ := B2.four
      clear hb h2
      go_wp2_with (first | (go_at_call 45; refine (rgisReg_any _ _).mono ?_; rintro e w' ⟨rfl, rfl⟩) | (go_at_call 46; refine (gmay_any _ _).mono ?_; rintro e w' ⟨rfl, rfl⟩))
      exact bodyPost_ret (v := .tuple #[.agg #[.int .i64 0, .int .i64 0, .int .i64 0, .int .i64 0], .int .i64 600]) (by simp [results, Tryz.results22, go_sem, d0, d1, d2, d3]) rfl ⟨rfl, by go_grown⟩
  · have hok : addOk c a b = true := by unfold addOk; rw [Bool.and_assoc, h1, h2]; rfl
    obtain ⟨e1, e2⟩ := add_yes hok
    obtain ⟨_, ha, hv⟩ := and3 hok
    rw [e1, e2]
    obtain ⟨ha0, ha1⟩ := upToV_yes ha
    obtain ⟨hb0, hb1⟩ := upToV_yes hv
    obtain ⟨g, rfl⟩ : ∃ g : Nat, a = g := ⟨a.toNat, by omega⟩
    obtain ⟨h, rfl⟩ : ∃ g : Nat, b = g := ⟨b.toNat, by omega⟩
    rw [Int.toNat_natCast, Int.toNat_natCast]
    have hg : g < 4 := by omega
    have hh : h < 4 := by omega
    have i1 : (g : Int) < 4 := by omega
    have i2 : (h : Int) < 4 := by omega
    obtain ⟨p0, p1⟩ := upToV_yes (allUp_get h1 g hg)
    obtain ⟨q0, q1⟩ := upToV_yes (allUp_get h1 h hh)
    have tm : (c g + c h).tmod 256 = (c g + c h) % 256 := Int.tmod_eq_emod_of_nonneg (by omega)
    clear e1 e2 hok h2
    unfold quadA
    go_enter Tryz.func22, Tryz.ntmps22
    go_wp2_with fail
    refine (gone_any c _).mono ?_
    rintro e w1 ⟨rfl, hb⟩
    rw [h1]
    have B1 := ((blk_new w (quadL c) 24).alloc _).on hb
    have B2 := (blk_new (w.alloc _) _ _).on hb
    rw [World.size_alloc] at B2
    have b1 : Below w.heap.size w w1 := Below.on (by go_grown) hb
    have c1 := B1.cell g _ (quadL_get c hg)
    have c2 := B1.cell h _ (quadL_get c hh)
    have f1 := B1.frozen g
    clear hb
    go_upto_region 3 with (first | (go_at_call 45; refine (rgisReg_any _ _).mono ?_; rintro e w' ⟨rfl, rfl⟩) | (go_at_call 46; refine (gmay_any _ _).mono ?_; rintro e w' ⟨rfl, rfl⟩))
    go_region
    have B1' := B1.set g (.int .i64 ((c g + c h) % 256))
    rw [quadL_set c hg] at B1'
    have B2' := (B2.far (a := ⟨w.heap.size, g, none⟩) (.int .i64 ((c g + c h) % 256)) (by simp)).drew
    have b' : Below w.heap.size w (w1.setCell ⟨w.heap.size, g, none⟩ (.int .i64 ((c g + c h) % 256))).drew := (b1.setCell (by simp) _).drew
    replace B1' := B1'.drew
    clear B1 B2 b1 c1 c2 f1
    generalize (w1.setCell ⟨w.heap.size, g, none⟩ (.int .i64 ((c g + c h) % 256))).drew = W at *
    obtain ⟨⟨c0, c1, c2, c3⟩, f0, f1, f2, f3⟩ := B1'.four
    obtain ⟨⟨d0, d1, d2, d3⟩, g0, g1, g2, g3⟩ := B2'.four
    go_wp2
    exact bodyPost_ret (v := .tuple #[quadA (updQ c g ((c g + c h) % 256)), .int .i64 0]) (by simp [results, Tryz.results22, go_sem, d0, d1, d2, d3, quadA]) rfl ⟨rfl, by go_grown⟩
end Go.Proofs.YtnjognmnbpcaaaaGreat
