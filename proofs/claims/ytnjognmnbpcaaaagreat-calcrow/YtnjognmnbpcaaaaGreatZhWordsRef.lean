/-
  The document's question: are all words there that a session names?
-/
import Derived.Test.YtnjognmnbpcaaaaGreatZlad
import Derived.Test.YtnjognmnbpcaaaaGreatZlac
import Derived.Test.YtnjognmnbpcaaaaGreatZlab
import Derived.Test.YtnjognmnbpcaaaaGreatZlae
namespace Go.Proofs.YtnjognmnbpcaaaaGreat
open Go.RowKit
set_option linter.unusedSimpArgs false
set_option linter.unusedVariables false
set_option maxRecDepth 100000 in
set_option maxHeartbeats 4000000 in
theorem rwords_any (s : Nat → Sl) (i : Nat → Int) (pa ra ta : Option Addr) (pn pc rn rc tn tc : Nat) (pz rz tz : Nat → Int) (w : World) (hp : pn ≤ 1152921504606846976) (hr : rn ≤ 1152921504606846976) (ht : tn ≤ 1152921504606846976)
    (P : Row w pa (pn * 4) fun k => .int .i64 (pz k)) (R : Row w ra (rn * 3) fun k => .int .i64 (rz k)) (T : Row w ta (tn * 3) fun k => .int .i64 (tz k)) :
    Calls Tryz.prog 105 #[arenaA s, sessA i (.slice pa pn pc) (.slice ra rn rc) (.slice ta tn tc)] w fun e w' => e = .returned (.bool (wordsThere s pn rn tn pz rz tz)) ∧ Below w.heap.size w w' := by
  have CA := hide fun l i w => rthere_any s l i w
  have CR := hide fun w h => rreadsThere_any s ra rn rc rz w hr h
  have HS : ∃ S : World → Prop, S ((w.alloc (.cells (arenaL s).toArray 23)).alloc (.cells (sessL i (.slice pa pn pc) (.slice ra rn rc) (.slice ta tn tc)).toArray 44)) ∧ (∀ W, S W → Below w.heap.size w W ∧ Blk W w.heap.size (arenaL s) ∧ Blk W (w.heap.size + 1) (sessL i (.slice pa pn pc) (.slice ra rn rc) (.slice ta tn tc))) ∧ Stays S := by
    refine ⟨fun W => Below w.heap.size w W ∧ Blk W w.heap.size (arenaL s) ∧ Blk W (w.heap.size + 1) (sessL i (.slice pa pn pc) (.slice ra rn rc) (.slice ta tn tc)), ⟨((Below.refl _ w).alloc (Nat.le_refl _) _).alloc (by simp) _, (blk_new w _ _).alloc _, ?_⟩, fun W h => h, (stays_below w).and ((stays_blk _ _).and (stays_blk _ _))⟩
    have := blk_new (w.alloc (.cells (arenaL s).toArray 23)) (sessL i (.slice pa pn pc) (.slice ra rn rc) (.slice ta tn tc)) 44
    rw [World.size_alloc] at this
    exact this
  obtain ⟨S, hS0, hSo, hSt⟩ := HS
  replace hSo := hide hSo
  replace hSt := hide hSt
  replace hS0 := hide hS0
  have HP := hide P
  have HT := hide T
  have HRR := hide R
  clear P R T hr
  have W1 : Hid (wordsThere s pn rn tn pz rz tz = (allTo (instThere s pz) pn && (allTo (thereP s tz) tn && allTo (thereP s rz) rn))) := rfl
  generalize wordsThere s pn rn tn pz rz tz = WT at *
  unfold arenaA sessA at *
  go_enter Tryz.func105, Tryz.ntmps105
  go_wp2
  go_loopw [5] (fun x wr => ∃ k : Nat, k ≤ pn ∧ x = .int .i64 k ∧ Hid (allTo (instThere s pz) k = true) ∧ Hid (S wr)) (fun x _ => pn - (intOf x).toNat)
  case atStart => exact ⟨0, Nat.zero_le _, rfl, rfl, hS0⟩
  case round =>
    clear hS0
    obtain ⟨k, hk, rfl, HK, HW⟩ := hrel
    obtain ⟨hb, B0, B1⟩ := hSo.out _ HW.out
    have Q := HP.out.below hb (Nat.le_refl _)
    by_cases hlt : k < pn
    · have i1 : (k : Int) < (pn : Int) := by omega
      obtain ⟨b, off, rfl, hbl, d0, _, d2, d3⟩ := Q.kin4 k hlt
      obtain ⟨p0, p1, p2, p3⟩ := B0.kin4
      have q3 : ∀ u : Kin wr, u.at_.cell? ⟨w.heap.size + 1, 3, none⟩ = some (.slice (some ⟨b, off, none⟩) pn pc) := fun u => (B1.kin u).cell 3 _ rfl
      have e3 := B1.cell 3 _ rfl
      have e0 := kin_self (p := fun W => W.cell? ⟨b, off + k * 4, none⟩ = some (.int .i64 (pz (k * 4)))) d0
      have kne : Nonempty (Kin wr) := kin_any wr
      clear hb B0 B1 Q HP
      have HCC := hide fun u : Kin wr => Calls.kin_of (u := u) (CA.out (pz (k * 4 + 2)) (pz (k * 4 + 3)) _)
      cases hc2 : (pz (k * 4) == 2)
      · cases hc3 : (pz (k * 4) == 3)
        · have HN : Hid (allTo (instThere s pz) (k + 1) = true) := by
            show allTo (instThere s pz) (k + 1) = true
            rw [allTo, HK.out]
            unfold instThere namesW
            rw [hc2, hc3]; rfl
          have HC := HCC
          clear HCC CA CR HK
          go_upto_region 5 with (fail)
          refine wp_region_kin (by kernel_rfl) (by kernel_rfl) ?_
          repeat (go_big_quiet_step ((go_at_call 133; with_reducible exact HC.out _)))
          refine wpQuiet_nil ?_
          rintro _ ⟨u, rfl⟩
          have SV := hide (hSt.out _ _ HW.out u.below)
          clear d0 d2 d3 p0 p1 p2 p3 q3 e3 e0 kne HC HW hbl i1
          generalize u.at_ = V at *
          clear u
          clear hc2 hc3
          go_wp2
          go_roundw
          case rel =>
            first
              | exact ⟨k + 1, by omega, by go_num, HN, SV⟩
              | (repeat apply Exists.intro
                 exact ⟨⟨k + 1, by omega, by go_num, HN, SV⟩, rfl⟩)
          case measure => simp [intOf]; omega
        · cases hth : thereV s (pz (k * 4 + 2)) (pz (k * 4 + 3))
          · rw [hth] at HCC
            have HN : Hid (WT = false) := by
              show WT = false
              rw [W1.out, allTo_no k hlt (by unfold instThere namesW; rw [hc2, hc3, hth]; rfl)]; rfl
            have HC := HCC
            clear HCC CA CR HK hth
            go_upto_region 5 with (fail)
            refine wp_region_kin (by kernel_rfl) (by kernel_rfl) ?_
            repeat (go_big_quiet_step ((go_at_call 133; with_reducible exact HC.out _)))
            refine wpQuiet_nil ?_
            rintro _ ⟨u, rfl⟩
            have SV := hide (hSt.out _ _ HW.out u.below)
            clear d0 d2 d3 p0 p1 p2 p3 q3 e3 e0 kne HC HW hbl i1
            generalize u.at_ = V at *
            clear u
            obtain ⟨bV, _, _⟩ := hSo.out _ SV.out
            go_wp2
            go_ret
            exact ⟨ret_bool HN.out.symm, bV⟩
          · rw [hth] at HCC
            have HN : Hid (allTo (instThere s pz) (k + 1) = true) := by
              show allTo (instThere s pz) (k + 1) = true
              rw [allTo, HK.out]
              unfold instThere namesW
              rw [hc2, hc3, hth]; rfl
            have HC := HCC
            clear HCC CA CR HK hth
            go_upto_region 5 with (fail)
            refine wp_region_kin (by kernel_rfl) (by kernel_rfl) ?_
            repeat (go_big_quiet_step ((go_at_call 133; with_reducible exact HC.out _)))
            refine wpQuiet_nil ?_
            rintro _ ⟨u, rfl⟩
            have SV := hide (hSt.out _ _ HW.out u.below)
            clear d0 d2 d3 p0 p1 p2 p3 q3 e3 e0 kne HC HW hbl i1
            generalize u.at_ = V at *
            clear u
            go_wp2
            go_roundw
            case rel =>
              first
                | exact ⟨k + 1, by omega, by go_num, HN, SV⟩
                | (repeat apply Exists.intro
                   exact ⟨⟨k + 1, by omega, by go_num, HN, SV⟩, rfl⟩)
            case measure => simp [intOf]; omega
      · cases hth : thereV s (pz (k * 4 + 2)) (pz (k * 4 + 3))
        · rw [hth] at HCC
          have HN : Hid (WT = false) := by
            show WT = false
            rw [W1.out, allTo_no k hlt (by unfold instThere namesW; rw [hc2, hth]; rfl)]; rfl
          have HC := HCC
          clear HCC CA CR HK hth
          go_upto_region 5 with (fail)
          refine wp_region_kin (by kernel_rfl) (by kernel_rfl) ?_
          repeat (go_big_quiet_step ((go_at_call 133; with_reducible exact HC.out _)))
          refine wpQuiet_nil ?_
          rintro _ ⟨u, rfl⟩
          have SV := hide (hSt.out _ _ HW.out u.below)
          clear d0 d2 d3 p0 p1 p2 p3 q3 e3 e0 kne HC HW hbl i1
          generalize u.at_ = V at *
          clear u
          obtain ⟨bV, _, _⟩ := hSo.out _ SV.out
          go_wp2
          go_ret
          exact ⟨ret_bool HN.out.symm, bV⟩
        · rw [hth] at HCC
          have HN : Hid (allTo (instThere s pz) (k + 1) = true) := by
            show allTo (instThere s pz) (k + 1) = true
            rw [allTo, HK.out]
            unfold instThere namesW
            rw [hc2, hth]; rfl
          have HC := HCC
          clear HCC CA CR HK hth
          go_upto_region 5 with (fail)
          refine wp_region_kin (by kernel_rfl) (by kernel_rfl) ?_
          repeat (go_big_quiet_step ((go_at_call 133; with_reducible exact HC.out _)))
          refine wpQuiet_nil ?_
          rintro _ ⟨u, rfl⟩
          have SV := hide (hSt.out _ _ HW.out u.below)
          clear d0 d2 d3 p0 p1 p2 p3 q3 e3 e0 kne HC HW hbl i1
          generalize u.at_ = V at *
          clear u
          go_wp2
          go_roundw
          case rel =>
            first
              | exact ⟨k + 1, by omega, by go_num, HN, SV⟩
              | (repeat apply Exists.intro
                 exact ⟨⟨k + 1, by omega, by go_num, HN, SV⟩, rfl⟩)
          case measure => simp [intOf]; omega
    · obtain rfl : k = pn := by omega
      have e3 := B1.cell 3 _ rfl
      clear hb B0 B1 Q HP hlt hk
      go_wp2
      clear e3
      go_loopw [7] (fun x wr => ∃ k : Nat, k ≤ tn ∧ x = .int .i64 k ∧ Hid (allTo (thereP s tz) k = true) ∧ Hid (S wr)) (fun x _ => tn - (intOf x).toNat)
      case atStart => exact ⟨0, Nat.zero_le _, rfl, rfl, HW⟩
      case round =>
        clear HW
        have HKp := HK
        obtain ⟨k2, hk, rfl, HK, HW⟩ := hrel
        obtain ⟨hb, B0, B1⟩ := hSo.out _ HW.out
        have Q := HT.out.below hb (Nat.le_refl _)
        by_cases hlt : k2 < tn
        · have i1 : (k2 : Int) < (tn : Int) := by omega
          obtain ⟨b, off, rfl, hbl, d0, d1, _⟩ := Q.kin3 k2 hlt
          obtain ⟨p0, p1, p2, p3⟩ := B0.kin4
          have q3 : ∀ u : Kin wr, u.at_.cell? ⟨w.heap.size + 1, 11, none⟩ = some (.slice (some ⟨b, off, none⟩) tn tc) := fun u => (B1.kin u).cell 11 _ rfl
          have e3 := B1.cell 11 _ rfl
          have kne : Nonempty (Kin wr) := kin_any wr
          clear hb B0 B1 Q HT
          have HCC := hide fun u : Kin wr => Calls.kin_of (u := u) (CA.out (tz (k2 * 3)) (tz (k2 * 3 + 1)) _)
          cases hth : thereP s tz k2
          · have HN : Hid (WT = false) := by
              show WT = false
              rw [W1.out, allTo_no k2 hlt hth, Bool.false_and, Bool.and_false]
            unfold thereP at hth
            rw [hth] at HCC
            have HC := HCC
            clear HCC CA CR HK hth
            go_upto_region 10 with (fail)
            refine wp_region_kin (by kernel_rfl) (by kernel_rfl) ?_
            repeat (go_big_quiet_step ((go_at_call 133; with_reducible exact HC.out _)))
            refine wpQuiet_nil ?_
            rintro _ ⟨u, rfl⟩
            have SV := hide (hSt.out _ _ HW.out u.below)
            clear d0 d1 p0 p1 p2 p3 q3 e3 kne HC HW hbl i1
            generalize u.at_ = V at *
            clear u
            obtain ⟨bV, _, _⟩ := hSo.out _ SV.out
            go_wp2
            go_ret
            exact ⟨ret_bool HN.out.symm, bV⟩
          · have HN : Hid (allTo (thereP s tz) (k2 + 1) = true) := by
              show allTo (thereP s tz) (k2 + 1) = true
              rw [allTo, HK.out, hth]; rfl
            unfold thereP at hth
            rw [hth] at HCC
            have HC := HCC
            clear HCC CA CR HK hth
            go_upto_region 10 with (fail)
            refine wp_region_kin (by kernel_rfl) (by kernel_rfl) ?_
            repeat (go_big_quiet_step ((go_at_call 133; with_reducible exact HC.out _)))
            refine wpQuiet_nil ?_
            rintro _ ⟨u, rfl⟩
            have SV := hide (hSt.out _ _ HW.out u.below)
            clear d0 d1 p0 p1 p2 p3 q3 e3 kne HC HW hbl i1
            generalize u.at_ = V at *
            clear u
            go_wp2
            go_roundw
            case rel =>
              first
                | exact ⟨k2 + 1, by omega, by go_num, HN, SV⟩
                | (repeat apply Exists.intro
                   exact ⟨⟨k2 + 1, by omega, by go_num, HN, SV⟩, rfl⟩)
            case measure => simp [intOf]; omega
        · obtain rfl : k2 = tn := by omega
          have e3 := B1.cell 11 _ rfl
          have e10 := B1.cell 10 _ rfl
          obtain ⟨p0, p1, p2, p3⟩ := B0.cells4
          have C := hide (CR.out wr (HRR.out.below hb (Nat.le_refl _)))
          have HN : Hid (WT = allTo (thereP s rz) rn) := by
            show WT = _
            rw [W1.out, HKp.out, HK.out]; rfl
          generalize allTo (thereP s rz) rn = X at *
          clear B0 B1 Q HT hlt hk CA CR HK HKp W1
          go_wp2_with fail
          refine C.out.mono ?_
          rintro e w2 ⟨rfl, hb2⟩
          have b2 := hide (Below.on hb hb2)
          clear hb hb2 C p0 p1 p2 p3 e3 e10
          go_wp2
          go_ret
          exact ⟨ret_bool HN.out.symm, b2.out⟩
end Go.Proofs.YtnjognmnbpcaaaaGreat
