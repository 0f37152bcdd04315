/-
  The document's 'loose'.
-/
import Derived.Test.YtjjokalheloimaaGreatZlaf
namespace Go.Proofs.YtjjokalheloimaaGreat
open Go.RowKit
set_option linter.unusedSimpArgs false
set_option linter.unusedVariables false
set_option maxRecDepth 100000 in
set_option maxHeartbeats 4000000 in
theorem rloose_any (A : MacM) (M : PMach) (k : Nat) (w : World) (h : MachIs w A M) (hk : k < A.s.n) :
    Calls Tryz.prog 87 #[machA A M, .int .i64 k] w fun e w' => ∃ A', e = .returned (machA A' (looseP M k)) ∧ MachOwn (fun k => w.heap.size ≤ k ∧ k < w'.heap.size) w' A' (looseP M k) ∧ A'.s.n = A.s.n ∧ Below w.heap.size w w' := by
  have hCopy := hide fun (W : World) (hb : Below w.heap.size w W) => rcopyMach_any A M W (h.below hb)
  have hXL := hide h.sess.1
  have i0 : (k : Int) < (A.s.n : Int) := by omega
  obtain ⟨V0, hV0⟩ : ∃ V0, V0 = machA A M := ⟨_, rfl⟩
  rw [← hV0]
  have HV : Hid (V0.cells = (machL A M).toArray) := by rw [hV0]; rfl
  clear hV0
  have HM := hide h
  have HS := hide (St.refl w)
  clear h
  go_enter Tryz.func87, Tryz.ntmps87
  go_upto_region 1 with (first | ((with_reducible refine isList ?_); first | (refine st_box HS _ _ rfl rfl (machL A M) HV.out ?_; clear HS; intro W bm HS) | (refine st_alloc HS _ rfl rfl zeroML zeroM ?_; clear HS; intro W br HS)))
  go_wp2_with (first | ((with_reducible refine isList ?_); first | (refine st_loadA HS 1 rfl _ _ rfl rfl rfl (by decide +kernel) (by kernel_rfl) ?_)))
  refine (hCopy.out _ HS.out.below).mono ?_
  rintro e W1 ⟨A1, rfl, hO, hb⟩
  have HS1 := hide (HS.out.push hb (machI (fun k => _) A1 M) (machI_loc _ _ _) hO fun k hk => hk)
  generalize (fun k => _) = D1 at HS1
  have hn1 : A1.s.n = A.s.n := by have := hO.is.sess.1; have := hXL.out; omega
  have hk1 : k < A1.s.n := by omega
  clear HS hb hO hCopy
  obtain ⟨bs, off, hbs, hbl, hr⟩ := (HM.out.below HS1.out.below).sess.cell hk (j := 0) (by decide)
  replace hbs := hide hbs
  clear hbl hr
  go_upto_region 2 with (first | ((with_reducible refine isList ?_); first | (refine st_alloc HS1 _ rfl rfl zeroML zeroM ?_; clear HS1; intro W bo HS) | (refine st_storeA HS 0 rfl _ _ _ rfl rfl rfl _ rfl rfl (by kernel_rfl) rfl ?_; clear HS; intro W HS)))
  replace hbs := hbs.out
  go_upto_region 3 with (first | (refine st_load1 HS 3 rfl _ _ rfl _ rfl rfl (by decide +kernel) rfl ?_) | (refine st_loadS (HM.out.below HS.out.below) hk hbs 0 (by decide) rfl _ _ rfl _ rfl rfl rfl (by decide +kernel) ?_))
  clear hbs
  obtain ⟨id, hid⟩ : ∃ id, id = lz (M.at k).num 0 := ⟨_, rfl⟩
  replace HS : Hid (St w W [blkI bo (machL A1 M), machI D1 A1 (looseW id M 0), blkI br zeroML, blkI bm (machL A M)]) := HS
  rw [← hid]
  replace hid := hide hid
  go_wp2
  go_loopw [7] (fun i wr => ∃ g : Nat, g ≤ 4 ∧ i = .int .i64 g ∧ Hid (St w wr [blkI bo (machL A1 M), machI D1 A1 (looseW id M g), blkI br zeroML, blkI bm (machL A M)])) (fun i _ => 4 - (intOf i).toNat)
  case atStart => exact ⟨0, Nat.zero_le _, rfl, HS⟩
  case round =>
    clear HS
    obtain ⟨g, hg, rfl, HS⟩ := hrel
    by_cases hlt : g < 4
    · have i1 : (g : Int) < 4 := by omega
      replace HS : Hid (St w wr [blkI bo (machL A1 M), machI D1 A1 ((looseW id M g).setLv g (freeTo id ((looseW id M g).lv g) 0)), blkI br zeroML, blkI bm (machL A M)]) := by
        unfold freeTo; rw [PMach.setLv_self]; exact HS
      have hw4 : Hid ((looseW id M g).words.length = 4) := by
        have hM : MachOwn D1 wr A1 _ := HS.out.get 1 rfl
        show (looseW id M g).words.length = 4
        have := hM.is.four
        rw [show ((looseW id M g).setLv g (freeTo id ((looseW id M g).lv g) 0)).words.length = ((looseW id M g).words.set g _).length from rfl, List.length_set] at this
        exact this
      have hwl : Hid (((looseW id M g).lv g).length = (A1.w g).n * 3) := by
        have hM : MachOwn D1 wr A1 _ := HS.out.get 1 rfl
        have := (hM.is.words g hlt).1
        rw [PMach.lv_setLv (by rw [hw4.out]; exact hlt)] at this
        exact this
      have hn5 : (A1.w g).n ≤ 1152921504606846976 := by
        have hM : MachOwn D1 wr A1 _ := HS.out.get 1 rfl
        have := (hM.is.words g hlt).2.1.1
        omega
      go_wp2
      go_loopw [8] (fun j wr2 => ∃ m : Nat, m ≤ (A1.w g).n ∧ j = .int .i64 m ∧ Hid (St w wr2 [blkI bo (machL A1 M), machI D1 A1 ((looseW id M g).setLv g (freeTo id ((looseW id M g).lv g) m)), blkI br zeroML, blkI bm (machL A M)])) (fun j _ => (A1.w g).n - (intOf j).toNat)
      case atStart => exact ⟨0, Nat.zero_le _, rfl, HS⟩
      case round =>
        clear HS
        obtain ⟨m, hm, rfl, HS⟩ := hrel
        by_cases hmn : m < (A1.w g).n
        · have i2 : (m : Int) < ((A1.w g).n : Int) := by omega
          have hM : MachOwn D1 _ A1 _ := HS.out.get 1 rfl
          obtain ⟨b, hb, _⟩ := hM.wblk hlt (by omega)
          have hc := hM.is.wcell hlt hmn (c := 2) (by decide) hb
          rw [PMach.lv_setLv (by rw [hw4.out]; exact hlt), Nat.zero_add] at hc
          obtain ⟨q, hq⟩ : ∃ q, q = lz (freeTo id ((looseW id M g).lv g) m) (m * 3 + 2) := ⟨_, rfl⟩
          rw [← hq] at hc
          clear hM
          replace hc := hide hc
          replace hb := hide hb
          go_upto_region 9 with (refine st_load1 HS 0 rfl _ _ rfl g rfl rfl (by decide +kernel) (machL_w A1 M hlt) ?_)
          replace hb := hb.out
          replace hq := hide hq
          by_cases hL : q = wrap64 (id + 1)
          · have hL2 : (q == wrap64 (id + 1)) = true := by rw [hL]; exact beq_self_eq_true _
            have hF : freeTo id ((looseW id M g).lv g) (m + 1) = (freeTo id ((looseW id M g).lv g) m).set (m * 3 + 2) 0 := by
              show (if _ then _ else _) = _
              rw [if_pos (by rw [← hq.out]; exact hL)]
            replace hL := hide hL
            replace hF := hide hF
            go_wp2_with (first | (refine st_load1 HS 0 rfl _ _ rfl g rfl rfl (by decide +kernel) (machL_w A1 M hlt) ?_) | (refine wpList_load_one _ _ rfl rfl _ rfl _ (by decide +kernel) hc.out ?_) | (refine st_storeW HS 1 rfl hlt (c := m * 3 + 2) (by omega) hb _ _ _ rfl rfl rfl rfl (by decide +kernel) ?_; clear HS; intro W HS))
            rw [PMach.setLv_twice, PMach.lv_setLv (by rw [hw4.out]; exact hlt), ← hF.out] at HS
            go_roundw
            case rel =>
             first
              | exact ⟨m + 1, by omega, by go_num, HS⟩
              | (repeat apply Exists.intro
                 exact ⟨⟨m + 1, by omega, by go_num, HS⟩, rfl⟩)
            case measure => simp [intOf]; omega
          · have hL2 : (q == wrap64 (id + 1)) = false := by simpa using hL
            have hF : freeTo id ((looseW id M g).lv g) (m + 1) = freeTo id ((looseW id M g).lv g) m := by
              show (if _ then _ else _) = _
              rw [if_neg (by rw [← hq.out]; exact hL)]
            replace hL := hide hL
            replace hF := hide hF
            go_wp2_with (first | (refine st_load1 HS 0 rfl _ _ rfl g rfl rfl (by decide +kernel) (machL_w A1 M hlt) ?_) | (refine wpList_load_one _ _ rfl rfl _ rfl _ (by decide +kernel) hc.out ?_))
            rw [← hF.out] at HS
            go_roundw
            case rel =>
             first
              | exact ⟨m + 1, by omega, by go_num, HS⟩
              | (repeat apply Exists.intro
                 exact ⟨⟨m + 1, by omega, by go_num, HS⟩, rfl⟩)
            case measure => simp [intOf]; omega
        · obtain rfl : m = (A1.w g).n := by omega
          have e : looseW id M (g + 1) = (looseW id M g).setLv g (freeTo id ((looseW id M g).lv g) (A1.w g).n) := by
            show (looseW id M g).setLv g (freeTo id ((looseW id M g).lv g) (((looseW id M g).lv g).length / 3)) = _
            rw [hwl.out, Nat.mul_div_cancel _ (by decide)]
          rw [← e] at HS
          replace e := hide e
          go_wp2_with (refine st_load1 HS 0 rfl _ _ rfl g rfl rfl (by decide +kernel) (machL_w A1 M hlt) ?_)
          go_roundw
          case rel =>
           first
            | exact ⟨g + 1, by omega, by go_num, HS⟩
            | (repeat apply Exists.intro
               exact ⟨⟨g + 1, by omega, by go_num, HS⟩, rfl⟩)
          case measure => simp [intOf]; omega
    · obtain rfl : g = 4 := by omega
      obtain ⟨bs1, hbs1, _⟩ := MachOwn.sblk (HS.out.get 1 (x := machI D1 A1 (looseW id M 4)) rfl) hk1
      have i2 : (k : Int) < (A1.s.n : Int) := by omega
      go_wp2_with (first | ((with_reducible refine isList ?_); first | (refine st_load1 HS 0 rfl _ _ rfl _ rfl rfl (by decide +kernel) rfl ?_) | (refine st_storeNil HS 1 rfl hk1 hbs1 1 (by decide) _ _ _ rfl _ rfl (show _ = k * 17 + 10 from by with_reducible rfl) rfl rfl (by decide +kernel) ?_; clear HS; intro W HS) | (refine st_storeNil HS 1 rfl hk1 hbs1 2 (by decide) _ _ _ rfl _ rfl (show _ = k * 17 + 11 from by with_reducible rfl) rfl rfl (by decide +kernel) ?_; clear HS; intro W HS) | (refine st_storeN HS 1 rfl hk1 hbs1 9 (by decide) _ _ _ rfl _ rfl (show _ = k * 17 + 12 from by with_reducible rfl) rfl rfl (by decide +kernel) ?_; clear HS; intro W HS) | (refine st_storeN HS 1 rfl hk1 hbs1 10 (by decide) _ _ _ rfl _ rfl (show _ = k * 17 + 13 from by with_reducible rfl) rfl rfl (by decide +kernel) ?_; clear HS; intro W HS) | (refine st_loadA HS 0 rfl _ _ rfl rfl rfl (by decide +kernel) (by kernel_rfl) ?_) | (refine st_storeA HS 2 rfl _ _ _ rfl rfl rfl _ rfl rfl (by kernel_rfl) rfl ?_; clear HS; intro W HS)))
      rw [hid.out] at HS
      have e1 := HS.out.get 1 rfl
      have e2 := (HS.out.here 1 _ rfl).2.2
      refine bodyPost_ret (ret_mach Tryz.results87 (HS.out.blk 2 rfl) rfl rfl) rfl ⟨_, ?_, MachOwn.mono e1 e2, hn1, HS.out.below⟩
      rfl
end Go.Proofs.YtjjokalheloimaaGreat
