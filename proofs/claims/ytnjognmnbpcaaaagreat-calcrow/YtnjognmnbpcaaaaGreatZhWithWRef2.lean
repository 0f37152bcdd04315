/-
  The document's With of chapter 10: the walk.
-/
import Derived.Test.YtnjognmnbpcaaaaGreatZlad
namespace Go.Proofs.YtnjognmnbpcaaaaGreat
open Go.RowKit
set_option linter.unusedSimpArgs false
set_option linter.unusedVariables false
set_option maxRecDepth 10000 in
set_option maxHeartbeats 4000000 in
theorem rwithWrite_any (a : Option Addr) (n c : Nat) (z : Nat → Int) (l i v : Int) (w : World) (hn : n ≤ 1152921504606846976) (ha : a = none → n = 0 ∧ c = 0) (h : Row w a (n * 3) fun i => .int .i64 (z i)) :
    Calls Tryz.prog 113 #[.slice a n c, wordA l i v] w (WithWPost n z l i v w) := by
  obtain ⟨i0, hi, hz0, hz1, hz2⟩ := info_parts Tryz.infoWrite
  have CR := hide fun w h => rwritesMay_any a n c z w hn h
  have C1 := hide fun b w h => rwritesMay_any (some ⟨b, 0, none⟩) 1 1 (oneW l i v) w (by omega) h
  rw [writesMay_one] at C1
  have b0 : Below w.heap.size w (w.alloc (.cells #[.int .i64 l, .int .i64 i, .int .i64 v] 85)) := by go_grown
  have B := blk_new w [.int .i64 l, .int .i64 i, .int .i64 v] 85
  have HR := hide (h.below b0 (Nat.le_refl _))
  have H0 := hide h
  clear h
  unfold wordA
  go_enter Tryz.func113, Tryz.ntmps113
  go_wp2_with fail
  refine (CR.out _ HR.out).mono ?_
  rintro e w1 ⟨rfl, q, rfl⟩
  have b1 := Below.drawn b0 q
  have R1 := hide (HR.out.drewN q)
  have B1 := B.drawn q
  clear b0 HR B CR
  change Blk ((w.alloc (.cells #[.int .i64 l, .int .i64 i, .int .i64 v] 85)).drewN q) _ _ at B1
  generalize (w.alloc (.cells #[.int .i64 l, .int .i64 i, .int .i64 v] 85)).drewN q = w1 at *
  cases hr : writesMay n z
  · have HN := hide (withWOk_writes (l := l) (i := i) (v := v) hr)
    clear B1
    go_wp2
    go_ret2
    exact withW_no HN.out b1
  · obtain ⟨⟨c0, c1, c2⟩, f0, f1, f2⟩ := B1.three
    have bl := B1.lt
    go_wp2_with fail
    have bb := (Below.refl w1.heap.size w1).alloc (Nat.le_refl _) (.cells #[.int .i64 l, .int .i64 i, .int .i64 v] 85)
    refine (C1.out _ _ (blk_new w1 [.int .i64 l, .int .i64 i, .int .i64 v] 85).write).mono ?_
    rintro e w2 ⟨rfl, q2, rfl⟩
    replace bb := Below.drawn bb q2
    have b2 := Below.on b1 bb
    have R2 := hide (R1.out.below bb (Nat.le_refl _))
    have B2 := B1.on bb
    clear b1 R1 bb B1 C1 c0 c1 c2 f0 f1 f2
    generalize (w1.alloc (.cells [.int .i64 l, .int .i64 i, .int .i64 v].toArray 85)).drewN q2 = w2 at *
    have s2 := b2.size
    cases hm : writeMay l i v
    · have HN := hide (withWOk_write (n := n) (z := z) hm)
      clear B2
      go_wp2
      go_ret2
      exact withW_no HN.out b2
    · have HOK := hide (withWOk_mk hr hm)
      have HW := hide (writesMay_get hr)
      have HM := hide hm
      have n16 := HW.out.few
      have mm := writeMay_yes hm
      have HP := hide fun W => flip (rplace_any l i ⟨mm.1, mm.2.1⟩ W)
      generalize hG : 4 * l + i = G at HP
      have HG := hide hG
      clear hr hm bl mm hG
      go_wp2
      go_loopw [6, 7, 8] (fun o d j wr => ∃ (k m : Nat) (dd : Bool) (xa : Option Addr) (xc : Nat), k ≤ n ∧ o = .slice xa m xc ∧ d = .bool dd ∧ j = .int .i64 k ∧ Hid (MidW n z l i k m dd) ∧ Hid (wr.ownsRow (w.heap.size + 1) 85 3 (.slice xa m xc) m (rowL (intF (withWZ n z l i v)) (m * 3))) ∧ Blk wr w.heap.size [.int .i64 l, .int .i64 i, .int .i64 v] ∧ Below w.heap.size w wr) (fun _ _ j _ => n - (intOf j).toNat)
      case atStart => exact ⟨0, 0, false, none, 0, Nat.zero_le _, rfl, rfl, rfl, ⟨fun _ => ⟨rfl, Nat.zero_le _⟩, fun h => (by cases h)⟩, World.ownsRow_nil _ _ _ _, B2, b2⟩
      case round =>
        clear R2 B2 b2 s2
        obtain ⟨k, m, dd, xa, xc, hk, rfl, rfl, rfl, HD, HO, B, hb⟩ := hrel
        obtain ⟨⟨c0, c1, c2⟩, f0, f1, f2⟩ := B.three
        have bl2 := B.lt
        have m17 := MidW.few HW.out HD.out hk
        have sb : w.heap.size + 1 ≤ wr.heap.size := by omega
        by_cases hlt : k < n
        · have i1 : (k : Int) < (n : Int) := by omega
          obtain ⟨b, off, hsa, hbl, d0, d1, d2⟩ := (H0.out.below hb (Nat.le_refl _)).at3 k hlt
          subst hsa
          have ma := HW.out.alone k hlt
          have HK := hide fun W => flip (rplace_any _ _ ⟨ma.1, ma.2.1⟩ W)
          have ek : wkey z k = 4 * z (k * 3) + z (k * 3 + 1) := rfl
          rw [← ek] at HK
          clear ma ek
          cases dd
          · by_cases hA : wkey z k < G
            · obtain ⟨mid, cz⟩ := HD.out.ahead HW.out HM.out hlt (by rw [HG.out]; exact hA)
              have HMid := hide mid
              have HC := hide cz
              have j1 : ¬ G ≤ wkey z k := by omega
              have j2 : (wkey z k != G) = true := by simp; omega
              clear mid cz hA HD
              generalize wkey z k = A at *
              go_wp2
              go_quiet ((first | (go_at_call 135; with_reducible exact Calls.quiet_of_same (HP.out _)) | (go_at_call 135; with_reducible exact Calls.quiet_of_same (HK.out _))))
              have bW := Below.drawn hb nq
              have BW := B.drawn nq
              have HOW := hide (owns_drawn HO.out nq)
              replace sb : w.heap.size + 1 ≤ (wr.drewN nq).heap.size := sb
              clear hb B HO d0 d1 d2 hbl bl2 c0 c1 c2 f0 f1 f2 HP HK
              change Blk (wr.drewN nq) _ _ at BW
              generalize wr.drewN nq = W at *
              obtain ⟨b', off', hsa', hbl', d0, d1, d2⟩ := (H0.out.below bW (Nat.le_refl _)).at3 k hlt
              cases hsa'
              obtain ⟨⟨c0, c1, c2⟩, f0, f1, f2⟩ := BW.three
              have bl2 := BW.lt
              have HA3 := hide (HOW.out.alloc (.cells #[.int .i64 (z (k * 3)), .int .i64 (z (k * 3 + 1)), .int .i64 (z (k * 3 + 2))] 85))
              have HE3 := hide (owns_block HOW.out)
              have HNW3 := hide (World.news_of_block (cs := #[.int .i64 (z (k * 3)), .int .i64 (z (k * 3 + 1)), .int .i64 (z (k * 3 + 2))]) (t := 85) (fr := (0, 0)) (heap_alloc_new W (.cells #[.int .i64 (z (k * 3)), .int .i64 (z (k * 3 + 1)), .int .i64 (z (k * 3 + 2))] 85)))
              go_wp2_with (at_builtin; refine wpList_append_own _ rfl (.tmp 56) (.tmp 61) 42 rfl (w.heap.size + 1) 85 i0 (.agg #[.int .i64 0, .int .i64 0, .int .i64 0]) 3 24 Tryz.underlying42 hi hz0 hz1 hz2 rfl (by decide) _ _ _ rfl (unhide HA3) ⟨W.heap.size, 0, none⟩ 1 1 [.int .i64 (z (k * 3)), .int .i64 (z (k * 3 + 1)), .int .i64 (z (k * 3 + 2))] rfl rfl (unhide HNW3) ?_ ?_ ?_ ?_ ?_)
              · simp [Value.oneCell']
              · unfold maxLen; omega
              · omega
              · first | omega | (simp only [World.size_alloc]; omega)
              · intro v' w3 hown1 hgrow _
                have bw3 : Below w.heap.size w w3 := (bW.alloc (by omega) _).grown hgrow (by simp only [World.size_alloc]; omega) (fun k hk => by have := HE3.out k hk; omega)
                have Bw3 : Blk w3 w.heap.size [.int .i64 l, .int .i64 i, .int .i64 v] := (BW.alloc _).grown hgrow (fun e => by have := HE3.out _ e.symm; omega)
                rw [rowL_three _ _ HC.out] at hown1
                obtain ⟨ya3, yc3, rfl, hyc3, _, _, ho3⟩ := slice_of_owns hown1
                have HO3 := hide hown1
                have HV3 := hide ho3
                have sw3 := hgrow.size
                rw [World.size_alloc] at sw3
                clear hown1 hgrow HA3 HNW3 HE3 bW BW ho3 HOW
                go_wp2
                go_roundw
                case rel =>
                  first
                    | exact ⟨k + 1, m + 1, false, ya3, yc3, by omega, rfl, rfl, by go_num, HMid, HO3, Bw3, bw3⟩
                    | (repeat apply Exists.intro
                       exact ⟨⟨k + 1, m + 1, false, ya3, yc3, by omega, rfl, rfl, by go_num, HMid, HO3, Bw3, bw3⟩, rfl⟩)
                case measure => simp [intOf]; omega
            · obtain ⟨cz, m1, m2, _⟩ := HD.out.here HW.out HM.out hk (fun _ => by rw [HG.out]; exact hA)
              have HC := hide cz
              have j1 : G ≤ wkey z k := by omega
              by_cases hE : wkey z k = G
              · have HMid := hide (m1 hlt (by rw [HG.out]; exact hE))
                have j2 : (wkey z k != G) = false := by simp; omega
                clear m1 m2 cz hA HD hE
                generalize wkey z k = A at *
                go_wp2
                go_quiet ((first | (go_at_call 135; with_reducible exact Calls.quiet_of_same (HP.out _)) | (go_at_call 135; with_reducible exact Calls.quiet_of_same (HK.out _))))
                have bW := Below.drawn hb nq
                have BW := B.drawn nq
                have HOW := hide (owns_drawn HO.out nq)
                replace sb : w.heap.size + 1 ≤ (wr.drewN nq).heap.size := sb
                clear hb B HO d0 d1 d2 hbl bl2 c0 c1 c2 f0 f1 f2 HP HK
                change Blk (wr.drewN nq) _ _ at BW
                generalize wr.drewN nq = W at *
                obtain ⟨b', off', hsa', hbl', d0, d1, d2⟩ := (H0.out.below bW (Nat.le_refl _)).at3 k hlt
                cases hsa'
                obtain ⟨⟨c0, c1, c2⟩, f0, f1, f2⟩ := BW.three
                have bl2 := BW.lt
                have HA3 := hide (HOW.out.alloc (.cells #[.int .i64 l, .int .i64 i, .int .i64 v] 85))
                have HE3 := hide (owns_block HOW.out)
                have HNW3 := hide (World.news_of_block (cs := #[.int .i64 l, .int .i64 i, .int .i64 v]) (t := 85) (fr := (0, 0)) (heap_alloc_new W (.cells #[.int .i64 l, .int .i64 i, .int .i64 v] 85)))
                go_wp2_with (at_builtin; refine wpList_append_own _ rfl (.tmp 49) (.tmp 51) 42 rfl (w.heap.size + 1) 85 i0 (.agg #[.int .i64 0, .int .i64 0, .int .i64 0]) 3 24 Tryz.underlying42 hi hz0 hz1 hz2 rfl (by decide) _ _ _ rfl (unhide HA3) ⟨W.heap.size, 0, none⟩ 1 1 [.int .i64 l, .int .i64 i, .int .i64 v] rfl rfl (unhide HNW3) ?_ ?_ ?_ ?_ ?_)
                · simp [Value.oneCell']
                · unfold maxLen; omega
                · omega
                · first | omega | (simp only [World.size_alloc]; omega)
                · intro v' w3 hown1 hgrow _
                  have bw3 : Below w.heap.size w w3 := (bW.alloc (by omega) _).grown hgrow (by simp only [World.size_alloc]; omega) (fun k hk => by have := HE3.out k hk; omega)
                  have Bw3 : Blk w3 w.heap.size [.int .i64 l, .int .i64 i, .int .i64 v] := (BW.alloc _).grown hgrow (fun e => by have := HE3.out _ e.symm; omega)
                  rw [rowL_three _ _ HC.out] at hown1
                  obtain ⟨ya3, yc3, rfl, hyc3, _, _, ho3⟩ := slice_of_owns hown1
                  have HO3 := hide hown1
                  have HV3 := hide ho3
                  have sw3 := hgrow.size
                  rw [World.size_alloc] at sw3
                  clear hown1 hgrow HA3 HNW3 HE3 bW BW ho3 HOW
                  go_wp2
                  go_roundw
                  case rel =>
                    first
                      | exact ⟨k + 1, m + 1, true, ya3, yc3, by omega, rfl, rfl, by go_num, HMid, HO3, Bw3, bw3⟩
                      | (repeat apply Exists.intro
                         exact ⟨⟨k + 1, m + 1, true, ya3, yc3, by omega, rfl, rfl, by go_num, HMid, HO3, Bw3, bw3⟩, rfl⟩)
                  case measure => simp [intOf]; omega
              · obtain ⟨mid, cz2⟩ := m2 hlt (by rw [HG.out]; exact hE)
                have HMid := hide mid
                have HC2 := hide cz2
                have j2 : (wkey z k != G) = true := by simp; omega
                clear m1 m2 cz cz2 mid hA HD hE
                generalize wkey z k = A at *
                go_wp2
                go_quiet ((first | (go_at_call 135; with_reducible exact Calls.quiet_of_same (HP.out _)) | (go_at_call 135; with_reducible exact Calls.quiet_of_same (HK.out _))))
                have bW := Below.drawn hb nq
                have BW := B.drawn nq
                have HOW := hide (owns_drawn HO.out nq)
                replace sb : w.heap.size + 1 ≤ (wr.drewN nq).heap.size := sb
                clear hb B HO d0 d1 d2 hbl bl2 c0 c1 c2 f0 f1 f2 HP HK
                change Blk (wr.drewN nq) _ _ at BW
                generalize wr.drewN nq = W at *
                obtain ⟨b', off', hsa', hbl', d0, d1, d2⟩ := (H0.out.below bW (Nat.le_refl _)).at3 k hlt
                cases hsa'
                obtain ⟨⟨c0, c1, c2⟩, f0, f1, f2⟩ := BW.three
                have bl2 := BW.lt
                have HA3 := hide (HOW.out.alloc (.cells #[.int .i64 l, .int .i64 i, .int .i64 v] 85))
                have HE3 := hide (owns_block HOW.out)
                have HNW3 := hide (World.news_of_block (cs := #[.int .i64 l, .int .i64 i, .int .i64 v]) (t := 85) (fr := (0, 0)) (heap_alloc_new W (.cells #[.int .i64 l, .int .i64 i, .int .i64 v] 85)))
                go_wp2_with (at_builtin; refine wpList_append_own _ rfl (.tmp 49) (.tmp 51) 42 rfl (w.heap.size + 1) 85 i0 (.agg #[.int .i64 0, .int .i64 0, .int .i64 0]) 3 24 Tryz.underlying42 hi hz0 hz1 hz2 rfl (by decide) _ _ _ rfl (unhide HA3) ⟨W.heap.size, 0, none⟩ 1 1 [.int .i64 l, .int .i64 i, .int .i64 v] rfl rfl (unhide HNW3) ?_ ?_ ?_ ?_ ?_)
                · simp [Value.oneCell']
                · unfold maxLen; omega
                · omega
                · first | omega | (simp only [World.size_alloc]; omega)
                · intro v' w3 hown1 hgrow _
                  have bw3 : Below w.heap.size w w3 := (bW.alloc (by omega) _).grown hgrow (by simp only [World.size_alloc]; omega) (fun k hk => by have := HE3.out k hk; omega)
                  have Bw3 : Blk w3 w.heap.size [.int .i64 l, .int .i64 i, .int .i64 v] := (BW.alloc _).grown hgrow (fun e => by have := HE3.out _ e.symm; omega)
                  rw [rowL_three _ _ HC.out] at hown1
                  obtain ⟨ya3, yc3, rfl, hyc3, _, _, ho3⟩ := slice_of_owns hown1
                  have HO3 := hide hown1
                  have HV3 := hide ho3
                  have sw3 := hgrow.size
                  rw [World.size_alloc] at sw3
                  clear hown1 hgrow HA3 HNW3 HE3 bW BW ho3 HOW
                  clear c0 c1 c2 f0 f1 f2 bl2 d0 d1 d2 hbl'
                  obtain ⟨b2, off2, hsa2, hbl2, d0, d1, d2⟩ := (H0.out.below bw3 (Nat.le_refl _)).at3 k hlt
                  cases hsa2
                  obtain ⟨⟨c0, c1, c2⟩, f0, f1, f2⟩ := Bw3.three
                  have bl2 := Bw3.lt
                  have HA4 := hide (HO3.out.alloc (.cells #[.int .i64 (z (k * 3)), .int .i64 (z (k * 3 + 1)), .int .i64 (z (k * 3 + 2))] 85))
                  have HE4 := hide (owns_block HO3.out)
                  have HNW4 := hide (World.news_of_block (cs := #[.int .i64 (z (k * 3)), .int .i64 (z (k * 3 + 1)), .int .i64 (z (k * 3 + 2))]) (t := 85) (fr := (0, 0)) (heap_alloc_new w3 (.cells #[.int .i64 (z (k * 3)), .int .i64 (z (k * 3 + 1)), .int .i64 (z (k * 3 + 2))] 85)))
                  go_wp2_with (at_builtin; refine wpList_append_own _ rfl (.tmp 56) (.tmp 61) 42 rfl (w.heap.size + 1) 85 i0 (.agg #[.int .i64 0, .int .i64 0, .int .i64 0]) 3 24 Tryz.underlying42 hi hz0 hz1 hz2 rfl (by decide) _ _ _ rfl (unhide HA4) ⟨w3.heap.size, 0, none⟩ 1 1 [.int .i64 (z (k * 3)), .int .i64 (z (k * 3 + 1)), .int .i64 (z (k * 3 + 2))] rfl rfl (unhide HNW4) ?_ ?_ ?_ ?_ ?_)
                  · simp [Value.oneCell']
                  · unfold maxLen; omega
                  · omega
                  · first | omega | (simp only [World.size_alloc]; omega)
                  · intro v' w4 hown1 hgrow _
                    have bw4 : Below w.heap.size w w4 := (bw3.alloc (by omega) _).grown hgrow (by simp only [World.size_alloc]; omega) (fun k hk => by have := HE4.out k hk; omega)
                    have Bw4 : Blk w4 w.heap.size [.int .i64 l, .int .i64 i, .int .i64 v] := (Bw3.alloc _).grown hgrow (fun e => by have := HE4.out _ e.symm; omega)
                    rw [rowL_three _ _ HC2.out] at hown1
                    obtain ⟨ya4, yc4, rfl, hyc4, _, _, ho4⟩ := slice_of_owns hown1
                    have HO4 := hide hown1
                    have HV4 := hide ho4
                    have sw4 := hgrow.size
                    rw [World.size_alloc] at sw4
                    clear hown1 hgrow HA4 HNW4 HE4 bw3 Bw3 ho4 HO3
                    go_wp2
                    go_roundw
                    case rel =>
                      first
                        | exact ⟨k + 1, m + 1 + 1, true, ya4, yc4, by omega, rfl, rfl, by go_num, HMid, HO4, Bw4, bw4⟩
                        | (repeat apply Exists.intro
                           exact ⟨⟨k + 1, m + 1 + 1, true, ya4, yc4, by omega, rfl, rfl, by go_num, HMid, HO4, Bw4, bw4⟩, rfl⟩)
                    case measure => simp [intOf]; omega
          · obtain ⟨mid, ne, cz⟩ := HD.out.behind HW.out HM.out hlt
            have HMid := hide mid
            have HC := hide cz
            have j2 : (wkey z k != G) = true := by rw [HG.out] at ne; simp; omega
            clear mid cz ne HD
            generalize wkey z k = A at *
            go_wp2
            go_quiet ((first | (go_at_call 135; with_reducible exact Calls.quiet_of_same (HP.out _)) | (go_at_call 135; with_reducible exact Calls.quiet_of_same (HK.out _))))
            have bW := Below.drawn hb nq
            have BW := B.drawn nq
            have HOW := hide (owns_drawn HO.out nq)
            replace sb : w.heap.size + 1 ≤ (wr.drewN nq).heap.size := sb
            clear hb B HO d0 d1 d2 hbl bl2 c0 c1 c2 f0 f1 f2 HP HK
            change Blk (wr.drewN nq) _ _ at BW
            generalize wr.drewN nq = W at *
            obtain ⟨b', off', hsa', hbl', d0, d1, d2⟩ := (H0.out.below bW (Nat.le_refl _)).at3 k hlt
            cases hsa'
            obtain ⟨⟨c0, c1, c2⟩, f0, f1, f2⟩ := BW.three
            have bl2 := BW.lt
            have HA3 := hide (HOW.out.alloc (.cells #[.int .i64 (z (k * 3)), .int .i64 (z (k * 3 + 1)), .int .i64 (z (k * 3 + 2))] 85))
            have HE3 := hide (owns_block HOW.out)
            have HNW3 := hide (World.news_of_block (cs := #[.int .i64 (z (k * 3)), .int .i64 (z (k * 3 + 1)), .int .i64 (z (k * 3 + 2))]) (t := 85) (fr := (0, 0)) (heap_alloc_new W (.cells #[.int .i64 (z (k * 3)), .int .i64 (z (k * 3 + 1)), .int .i64 (z (k * 3 + 2))] 85)))
            go_wp2_with (at_builtin; refine wpList_append_own _ rfl (.tmp 56) (.tmp 61) 42 rfl (w.heap.size + 1) 85 i0 (.agg #[.int .i64 0, .int .i64 0, .int .i64 0]) 3 24 Tryz.underlying42 hi hz0 hz1 hz2 rfl (by decide) _ _ _ rfl (unhide HA3) ⟨W.heap.size, 0, none⟩ 1 1 [.int .i64 (z (k * 3)), .int .i64 (z (k * 3 + 1)), .int .i64 (z (k * 3 + 2))] rfl rfl (unhide HNW3) ?_ ?_ ?_ ?_ ?_)
            · simp [Value.oneCell']
            · unfold maxLen; omega
            · omega
            · first | omega | (simp only [World.size_alloc]; omega)
            · intro v' w3 hown1 hgrow _
              have bw3 : Below w.heap.size w w3 := (bW.alloc (by omega) _).grown hgrow (by simp only [World.size_alloc]; omega) (fun k hk => by have := HE3.out k hk; omega)
              have Bw3 : Blk w3 w.heap.size [.int .i64 l, .int .i64 i, .int .i64 v] := (BW.alloc _).grown hgrow (fun e => by have := HE3.out _ e.symm; omega)
              rw [rowL_three _ _ HC.out] at hown1
              obtain ⟨ya3, yc3, rfl, hyc3, _, _, ho3⟩ := slice_of_owns hown1
              have HO3 := hide hown1
              have HV3 := hide ho3
              have sw3 := hgrow.size
              rw [World.size_alloc] at sw3
              clear hown1 hgrow HA3 HNW3 HE3 bW BW ho3 HOW
              go_wp2
              go_roundw
              case rel =>
                first
                  | exact ⟨k + 1, m + 1, true, ya3, yc3, by omega, rfl, rfl, by go_num, HMid, HO3, Bw3, bw3⟩
                  | (repeat apply Exists.intro
                     exact ⟨⟨k + 1, m + 1, true, ya3, yc3, by omega, rfl, rfl, by go_num, HMid, HO3, Bw3, bw3⟩, rfl⟩)
              case measure => simp [intOf]; omega
        · obtain rfl : k = n := by omega
          cases dd
          · obtain ⟨cz, _, _, hm⟩ := HD.out.here HW.out HM.out hk (fun h => absurd h hlt)
            have HC := hide cz
            have HL := hide (hm rfl)
            clear cz hm HD
            have HA3 := hide (HO.out.alloc (.cells #[.int .i64 l, .int .i64 i, .int .i64 v] 85))
            have HE3 := hide (owns_block HO.out)
            have HNW3 := hide (World.news_of_block (cs := #[.int .i64 l, .int .i64 i, .int .i64 v]) (t := 85) (fr := (0, 0)) (heap_alloc_new wr (.cells #[.int .i64 l, .int .i64 i, .int .i64 v] 85)))
            go_wp2_with (at_builtin; refine wpList_append_own _ rfl (.tmp 65) (.tmp 67) 42 rfl (w.heap.size + 1) 85 i0 (.agg #[.int .i64 0, .int .i64 0, .int .i64 0]) 3 24 Tryz.underlying42 hi hz0 hz1 hz2 rfl (by decide) _ _ _ rfl (unhide HA3) ⟨wr.heap.size, 0, none⟩ 1 1 [.int .i64 l, .int .i64 i, .int .i64 v] rfl rfl (unhide HNW3) ?_ ?_ ?_ ?_ ?_)
            · simp [Value.oneCell']
            · unfold maxLen; omega
            · omega
            · first | omega | (simp only [World.size_alloc]; omega)
            · intro v' w3 hown1 hgrow _
              have bw3 : Below w.heap.size w w3 := (hb.alloc (by omega) _).grown hgrow (by simp only [World.size_alloc]; omega) (fun k hk => by have := HE3.out k hk; omega)
              have Bw3 : Blk w3 w.heap.size [.int .i64 l, .int .i64 i, .int .i64 v] := (B.alloc _).grown hgrow (fun e => by have := HE3.out _ e.symm; omega)
              rw [rowL_three _ _ HC.out] at hown1
              obtain ⟨ya3, yc3, rfl, hyc3, _, _, ho3⟩ := slice_of_owns hown1
              have HO3 := hide hown1
              have HV3 := hide ho3
              have sw3 := hgrow.size
              rw [World.size_alloc] at sw3
              clear hown1 hgrow HA3 HNW3 HE3 hb B ho3 HO
              go_wp2
              go_ret2
              exact withW_yes HOK.out HL.out bw3 hyc3 (fun hp => by obtain ⟨b, e1, e2, e3, e4⟩ := HV3.out hp; exact ⟨b, e1, by omega, e3, e4⟩)
          · have HL := hide (HD.out.done HW.out)
            obtain ⟨_, _, e, hyc, _, _, ho⟩ := slice_of_owns HO.out
            simp only [Value.slice.injEq, true_and] at e
            obtain ⟨rfl, rfl⟩ := e
            have HV := hide ho
            clear ho HD HO
            go_wp2
            go_ret2
            exact withW_yes HOK.out HL.out hb hyc (fun hp => by obtain ⟨b, e1, e2, e3, e4⟩ := HV.out hp; exact ⟨b, e1, by omega, e3, e4⟩)
end Go.Proofs.YtnjognmnbpcaaaaGreat
