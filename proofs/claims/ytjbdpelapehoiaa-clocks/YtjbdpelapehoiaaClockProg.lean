/-
  What the landed package clock's Next hands back.
-/
import Derived.Test.YtjbdpelapehoiaaClockSaid
namespace Go.Proofs.Ytjbdpelapehoiaa
open Go.RowKit
set_option linter.unusedSimpArgs false

theorem lmay_any (n : Int) (w : World) :
    Calls Try.prog 13 #[.int .i64 n] w fun e w' => e = .returned (.bool (upToV n 3)) ∧ w = w' := by
  unfold upToV
  by_cases h0 : 0 ≤ n
  · by_cases h1 : n ≤ 3
    · rw [decide_eq_true (show 0 ≤ n ∧ n ≤ 3 from ⟨h0, h1⟩)]
      have h2 : n < 4 := by omega
      go_enter Try.func13, Try.ntmps13
      go_wp2
      go_ret
      exact ⟨rfl, rfl⟩
    · rw [decide_eq_false (show ¬ (0 ≤ n ∧ n ≤ 3) from fun x => h1 x.2)]
      have h2 : ¬ n < 4 := by omega
      go_enter Try.func13, Try.ntmps13
      go_wp2
      go_ret
      exact ⟨rfl, rfl⟩
  · rw [decide_eq_false (show ¬ (0 ≤ n ∧ n ≤ 3) from fun x => h0 x.1)]
    go_enter Try.func13, Try.ntmps13
    go_wp2
    go_ret
    exact ⟨rfl, rfl⟩

theorem cmay_any (n : Int) (w : World) :
    Calls Try.prog 12 #[.int .i64 n] w fun e w' => e = .returned (.bool (upToV n 65535)) ∧ w = w' := by
  unfold upToV
  by_cases h0 : 0 ≤ n
  · by_cases h1 : n ≤ 65535
    · rw [decide_eq_true (show 0 ≤ n ∧ n ≤ 65535 from ⟨h0, h1⟩)]
      go_enter Try.func12, Try.ntmps12
      go_wp2
      go_ret
      exact ⟨rfl, rfl⟩
    · rw [decide_eq_false (show ¬ (0 ≤ n ∧ n ≤ 65535) from fun x => h1 x.2)]
      go_enter Try.func12, Try.ntmps12
      go_wp2
      go_ret
      exact ⟨rfl, rfl⟩
  · rw [decide_eq_false (show ¬ (0 ≤ n ∧ n ≤ 65535) from fun x => h0 x.1)]
    go_enter Try.func12, Try.ntmps12
    go_wp2
    go_ret
    exact ⟨rfl, rfl⟩

/-- The function that Next hands to the library: a clock may not be. -/
theorem clit_any (n : Int) (w : World) :
    Calls Try.prog 17 #[.int .i64 n] w fun e w' => e = .returned (.bool (!upToV n 65535)) ∧ w = w' := by
  go_enter Try.func17, Try.ntmps17
  go_wp2_with (go_at_call 12; refine (cmay_any _ _).mono ?_; rintro e w' ⟨rfl, rfl⟩)
  go_ret
  exact ⟨rfl, rfl⟩

/-- The place of the first that may not be, or -1. -/
theorem cidx_any (b : Nat) (c : Nat → Int) (w : World) (h : Blk w b (quadL c)) :
    Calls Try.prog 19 #[.slice (some ⟨b, 0, none⟩) 4 4, .func (.func 17) #[] #[]] w fun e w' => (∃ i : Int, e = .returned (.int .i64 i) ∧ (0 ≤ i ↔ allUp c 65535 4 = false)) ∧ w = w' := by
  go_enter Try.func19, Try.ntmps19
  go_wp2
  go_loopw [8] (fun i wr => ∃ k : Nat, k ≤ 4 ∧ i = .int .i64 k ∧ allUp c 65535 k = true ∧ w = wr) (fun i _ => 4 - (intOf i).toNat)
  case atStart => exact ⟨0, Nat.zero_le _, rfl, rfl, rfl⟩
  case round =>
    obtain ⟨k, hk, rfl, hs, rfl⟩ := hrel
    have HS := hide hs
    clear hs
    by_cases hlt : k < 4
    · have i1 : (k : Int) < 4 := by omega
      have d0 := h.cell k _ (quadL_get c hlt)
      cases hv : upToV (c k) 65535
      · go_wp2_with fail
        refine (clit_any _ _).mono ?_
        rintro e w1 ⟨rfl, rfl⟩
        rw [hv]
        go_wp2
        go_ret
        exact ⟨⟨_, rfl, fun _ => allUp_no k hlt hv, fun _ => by omega⟩, rfl⟩
      · have HN : Hid (allUp c 65535 (k + 1) = true) := by
          show allUp c 65535 (k + 1) = true
          rw [allUp, HS.out, hv]
          rfl
        go_wp2_with fail
        refine (clit_any _ _).mono ?_
        rintro e w1 ⟨rfl, rfl⟩
        rw [hv]
        go_wp2
        go_roundw
        case rel => exact ⟨k + 1, by omega, by go_num, HN.out, trivial⟩
        case measure => simp [intOf]; omega
    · obtain rfl : k = 4 := by omega
      go_wp2
      go_ret
      exact ⟨⟨_, rfl, fun h => by omega, fun h => by rw [HS.out] at h; cases h⟩, rfl⟩

theorem chas_any (b : Nat) (c : Nat → Int) (w : World) (h : Blk w b (quadL c)) :
    Calls Try.prog 16 #[.slice (some ⟨b, 0, none⟩) 4 4, .func (.func 17) #[] #[]] w fun e w' => e = .returned (.bool (!allUp c 65535 4)) ∧ w = w' := by
  go_enter Try.func16, Try.ntmps16
  go_wp2_with fail
  refine (cidx_any b c _ h).mono ?_
  rintro e w1 ⟨⟨i, rfl, hi⟩, rfl⟩
  have HI := hide hi
  clear hi
  go_wp2
  go_ret
  refine ⟨ret_bool ?_, rfl⟩
  cases e : allUp c 65535 4
  · exact decide_eq_true (HI.out.2 e)
  · refine decide_eq_false fun h => ?_
    have := HI.out.1 h
    rw [e] at this
    cases this

theorem cone_any (c : Nat → Int) (w : World) :
    Calls Try.prog 11 #[quadA c] w fun e w' => e = .returned (.bool (!allUp c 65535 4)) ∧ Below w.heap.size w w' := by
  have B := blk_new w (quadL c) 22
  have C := hide (chas_any _ c _ B)
  clear B
  unfold quadA
  go_enter Try.func11, Try.ntmps11
  go_wp2_with fail
  refine C.out.mono ?_
  rintro e w1 ⟨rfl, rfl⟩
  clear C
  go_wp2
  go_ret
  exact ⟨rfl, by go_grown⟩

theorem nextOk_eq (c : Nat → Int) (l m : Int) : nextOk c l m = (upToV l 3 && upToV m 65535 && allUp c 65535 4) := rfl

set_option maxHeartbeats 1000000 in
theorem next_c : NextC := by
  intro c l m w
  obtain ⟨x, hx⟩ : ∃ x, allUp c 65535 4 = x := ⟨_, rfl⟩
  have C := hide fun w => cone_any c w
  rw [hx] at C
  have B1 := (blk_new w (quadL c) 22).alloc (.cells (quadL fun _ => 0).toArray 22)
  have B2 := blk_new (w.alloc (.cells (quadL c).toArray 22)) (quadL fun _ => 0) 22
  have b0 : Below w.heap.size w ((w.alloc (.cells (quadL c).toArray 22)).alloc (.cells (quadL fun _ => 0).toArray 22)) := by go_grown
  rw [World.size_alloc] at B2
  unfold quadA at C
  unfold quadA
  cases hl : upToV l 3 <;> cases hm : upToV m 65535 <;> cases x
  all_goals
    have HOK := hide (nextOk_eq c l m)
    rw [hl, hm, hx] at HOK
    have HL := hide hl
    have HM := hide hm
    clear hl hm hx
    go_enter Try.func7, Try.ntmps7
    go_wp2_with fail
    refine (C.out _).mono ?_
    rintro e w1 ⟨rfl, hb1⟩
    have B1' := B1.on hb1
    have B2' := B2.on hb1
    have b1 : Below w.heap.size w w1 := Below.on b0 hb1
    clear hb1 b0 B1 B2
    obtain ⟨⟨d0, d1, d2, d3⟩, g0, g1, g2, g3⟩ := B2'.four
    have hL := HL.out
    have hM := HM.out
    clear HL HM
    first
    | (have HE := hide (next_form HOK.out)
       go_wp2_with (first | (go_at_call 13; refine (lmay_any _ _).mono ?_; rintro e w' ⟨rfl, rfl⟩) | (go_at_call 12; refine (cmay_any _ _).mono ?_; rintro e w' ⟨rfl, rfl⟩))
       exact bodyPost_ret (v := .tuple #[.agg #[.int .i64 0, .int .i64 0, .int .i64 0, .int .i64 0], .int .i64 0, .int .i64 500]) (by simp [results, Try.results7, go_sem, d0, d1, d2, d3]) rfl ⟨by rw [HE.out.1, HE.out.2.1, HE.out.2.2], by go_grown⟩)
    | skip
  obtain ⟨hl0, hl3⟩ := upToV_yes hL
  obtain ⟨g, rfl⟩ : ∃ g : Nat, l = g := ⟨l.toNat, by omega⟩
  have hg : g < 4 := by omega
  obtain ⟨_, _, hc⟩ := nextOk_get HOK.out
  obtain ⟨hg0, hg1⟩ := upToV_yes (allUp_get hc g hg)
  have c1 := B1'.cell g _ (quadL_get c hg)
  have f1 := B1'.frozen g
  have i1 : (g : Int) < 4 := by omega
  clear hc hl0 hl3
  by_cases hf : m ≤ c g
  · have HE := hide (next_full HOK.out (by rw [Int.toNat_natCast]; exact hf))
    go_wp2_with (first | (go_at_call 13; refine (lmay_any _ _).mono ?_; rintro e w' ⟨rfl, rfl⟩) | (go_at_call 12; refine (cmay_any _ _).mono ?_; rintro e w' ⟨rfl, rfl⟩))
    exact bodyPost_ret (v := .tuple #[.agg #[.int .i64 0, .int .i64 0, .int .i64 0, .int .i64 0], .int .i64 0, .int .i64 501]) (by simp [results, Try.results7, go_sem, d0, d1, d2, d3]) rfl ⟨by rw [HE.out.1, HE.out.2.1, HE.out.2.2], by go_grown⟩
  · have HE := hide (next_on HOK.out (by rw [Int.toNat_natCast]; exact hf))
    go_upto_region 6 with (first | (go_at_call 13; refine (lmay_any _ _).mono ?_; rintro e w' ⟨rfl, rfl⟩) | (go_at_call 12; refine (cmay_any _ _).mono ?_; rintro e w' ⟨rfl, rfl⟩))
    have B1 := B1'.set g (.int .i64 (c g + 1))
    rw [quadL_set c hg] at B1
    have B2 := B2'.far (a := ⟨w.heap.size, g, none⟩) (.int .i64 (c g + 1)) (by simp)
    have b' : Below w.heap.size w (w1.setCell ⟨w.heap.size, g, none⟩ (.int .i64 (c g + 1))) := b1.setCell (by simp) _
    have cg := B1.cell g _ (quadL_get _ hg)
    rw [updQ_same] at cg
    clear B1' B2' b1 c1 f1 d0 d1 d2 d3 g0 g1 g2 g3
    generalize w1.setCell ⟨w.heap.size, g, none⟩ (.int .i64 (c g + 1)) = W at *
    obtain ⟨⟨c0, c1, c2, c3⟩, f0, f1, f2, f3⟩ := B1.four
    obtain ⟨⟨d0, d1, d2, d3⟩, g0, g1, g2, g3⟩ := B2.four
    go_region
    all_goals
      go_wp2
      exact bodyPost_ret (v := .tuple #[quadA (updQ c g (c g + 1)), .int .i64 (c g + 1), .int .i64 0]) (by simp [results, Try.results7, go_sem, d0, d1, d2, d3, quadA]) rfl ⟨by rw [HE.out.1, HE.out.2.1, HE.out.2.2, Int.toNat_natCast]; rfl, by go_grown⟩

end Go.Proofs.Ytjbdpelapehoiaa
