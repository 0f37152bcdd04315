/-
  The document's Stamp.
-/
import Derived.Test.YtnjognmnbpcaaaaGreatZlah
import Derived.Test.YtnjognmnbpcaaaaGreatZlac
import Derived.Test.YtnjognmnbpcaaaaGreatZhClockRef
namespace Go.Proofs.YtnjognmnbpcaaaaGreat
open Go.RowKit
set_option linter.unusedSimpArgs false
set_option linter.unusedVariables false
/-- The clocks behind a stamp. -/
def PMach.nextL (M : PMach) (l : Int) : List Int := [nextC (lz M.clocks) l M.ceil 0, nextC (lz M.clocks) l M.ceil 1, nextC (lz M.clocks) l M.ceil 2, nextC (lz M.clocks) l M.ceil 3]
def stampP (M : PMach) (i : Int) : PMach × Int :=
  bif hereP M i && decide ((M.at i.toNat).step = 2) then
    bif decide (nextE (lz M.clocks) (lz (M.at i.toNat).num 1) M.ceil = 0) then
      (((M.doC (M.nextL (lz (M.at i.toNat).num 1))).doN i.toNat 10 (nextK (lz M.clocks) (lz (M.at i.toNat).num 1) M.ceil)).doN i.toNat 3 3, 0)
    else endP M i 5 0
  else (noMach, 1900)
set_option maxRecDepth 100000 in
set_option maxHeartbeats 2000000 in
theorem rstamp_any (A : MacM) (M : PMach) (i : Int) (w : World) (h : MachIs w A M) :
    Calls Tryz.prog 65 #[machA A M, .int .i64 i] w (MRet w (stampP M i)) := by
  have hX := hide h.sess.1
  have hHere := hide fun (i : Int) (W : World) (hb : Below w.heap.size w W) => rhere_any A M i W (h.below hb)
  have hRun := hide fun (k : Nat) (hk : k < A.s.n) (hp : 0 ≤ (M.at k).pc) (W : World) (hb : Below w.heap.size w W) => rrunning_any A M k W (h.below hb) hk hp
  have hNeeds := hide fun (i : Int) (W : World) (hb : Below w.heap.size w W) => rneeds_any A M i W (h.below hb)
  have hAgain := hide fun (i c : Int) (W : World) (hb : Below w.heap.size w W) => ragain_any A M i c W (h.below hb)
  have hEnd := hide fun (i a b : Int) (W : World) (hb : Below w.heap.size w W) => rend_any A M i a b W (h.below hb)
  have hCopy := hide fun (W : World) (hb : Below w.heap.size w W) => rcopyMach_any A M W (h.below hb)
  have hrng := hide fun (k : Nat) (hk : k < A.s.n) (W : World) (hb : Below w.heap.size w W) => (h.below hb).sess.range hk
  have hSes : Hid (∀ (k : Nat) (hk : k < A.s.n) (W : World) (hb : Below w.heap.size w W), SessIs W (A.q k) (M.at k)) := fun k hk W hb => (h.below hb).sess.2.2.2 k hk
  have hIns := hide fun (k : Nat) (hk : k < A.s.n) (hok : SessOk M.lens (M.at k)) (c : Int) (hr : runP (M.at k) = c) (hc : c ≠ -1) => ins_at h hk hok hr hc
  obtain ⟨V0, hV0⟩ : ∃ V0, V0 = machA A M := ⟨_, rfl⟩
  rw [← hV0]
  have HV : Hid (V0.cells = (machL A M).toArray) := by rw [hV0]; rfl
  clear hV0
  have HM := hide h
  have HS := hide (St.refl w)
  clear h
  go_enter Tryz.func65, Tryz.ntmps65
  go_wp2_with (first | ((with_reducible refine isList ?_); first | (refine st_box HS _ _ rfl rfl (machL A M) HV.out ?_; clear HS; intro W bm HS) | (refine st_alloc HS _ rfl rfl zeroML zeroM ?_; clear HS; intro W br HS) | (refine st_loadA HS 1 rfl _ _ rfl rfl rfl (by decide +kernel) (by kernel_rfl) ?_)))
  refine (hHere.out i _ HS.out.below).mono ?_
  rintro e W1 ⟨rfl, hb⟩
  replace HS := hide (HS.out.on hb)
  clear hb hHere
  cases hh : hereP M i
  case false =>
    go_wp2_with (first | ((with_reducible refine isList ?_); first | (refine st_storeA HS 0 rfl _ _ _ rfl rfl rfl _ rfl rfl (by kernel_rfl) rfl ?_; clear HS; intro W HS)))
    rw [show stampP M i = (noMach, 1900) by unfold stampP; rw [hh]; rfl]
    exact bodyPost_ret (ret_mach2 Tryz.results65 (HS.out.blk 0 rfl) rfl rfl rfl) rfl (mret_no HS.out.below)
  obtain ⟨hmay, k, rfl, hk0⟩ := hereP_yes hh
  have hk : k < A.s.n := by have := hX.out; omega
  have hok := hide (here_sess hmay hk0)
  have i2 : (k : Int) < (A.s.n : Int) := by omega
  replace hmay := hide hmay
  replace hh := hide hh
  obtain ⟨bs, off, hbs, hbl, hR⟩ := (HM.out.below HS.out.below).sess.range hk
  replace hR := hide hR
  by_cases hr : lz (M.at k).num 3 = 2
  · have hrb : (lz (M.at k).num 3 != 2) = false := by simpa using hr
    have eS : Hid (stampP M k = bif decide (nextE (lz M.clocks) (lz (M.at k).num 1) M.ceil = 0) then (((M.doC (M.nextL (lz (M.at k).num 1))).doN k 10 (nextK (lz M.clocks) (lz (M.at k).num 1) M.ceil)).doN k 3 3, 0) else endP M k 5 0) := by
      show stampP M k = _
      unfold stampP PSess.step; rw [hh.out, Int.toNat_natCast, decide_eq_true hr]; rfl
    replace hr := hide hr
    go_upto_region 3 with (first | ((with_reducible refine isList ?_); first | (refine st_load1 HS 1 rfl _ _ rfl _ rfl rfl (by decide +kernel) rfl ?_) | (refine st_loadS (HM.out.below HS.out.below) hk hbs 4 (by decide) rfl _ _ rfl _ rfl (Nat.add_assoc _ _ _) rfl (by decide +kernel) ?_)))
    have HB := HS.out.blk 1 rfl
    have hcs : Hid (∀ W', Below w.heap.size w W' → W'.cell? ⟨bs, off + k * 17 + 1, none⟩ = some (.int .i64 (lz (M.at k).num 1))) := fun W' hb => by
      obtain ⟨bs', off', hbs', _, hR'⟩ := (HM.out.below hb).sess.range hk
      rw [hbs] at hbs'; cases hbs'
      exact hR' 1 _ rfl
    have c1 := hcs.out _ HS.out.below
    obtain ⟨sl, hsl⟩ : ∃ sl, sl = lz (M.at k).num 1 := ⟨_, rfl⟩
    rw [← hsl] at c1 hcs eS
    clear hsl
    (try simp only [Act.put, List.setIfInBounds_toArray, List.set_cons_zero, List.set_cons_succ])
    refine wp_region_fork [true, true, true, true, true, true, true, true, true, true, false, false, false, false, false, false, false, false, false] 10 [11, 12, 13, 14, 15, 16, 17, 18] [3, 3, 3, 3, 0, 1, 2, 2] 15 [10, 11, 12, 13, 14, 16, 17, 18] [0, 3, 3, 3, 3, 1, 2, 2] (fun w' => Blk w' bm (machL A M) ∧ w'.cell? ⟨bs, off + k * 17 + 1, none⟩ = some (.int .i64 sl)) (by kernel_rfl) (by kernel_rfl) (by kernel_rfl) (by decide +kernel) ⟨HB.drew, c1⟩ ?_
    intro kne
    simp only [pickAt]
    repeat (first | ((first | (refine wpQuiet_la _ _ rfl bm (4) rfl rfl (by decide +kernel) [.int .i64 (lz M.clocks 0), .int .i64 (lz M.clocks 1), .int .i64 (lz M.clocks 2), .int .i64 (lz M.clocks 3)] (by kernel_rfl) (fun w hC => hC.1.part 4 (r := [.int .i64 M.ceil, .slice A.s.a A.s.n A.s.c, .slice A.e.a A.e.n A.e.c]) rfl) ?_) | (refine wpQuiet_ld _ _ rfl ⟨bm, 9, none⟩ rfl rfl (by decide +kernel) (fun w hC => hC.1.cell 9 _ rfl) ?_) | (refine wpQuiet_ld _ _ rfl ⟨bm, 8, none⟩ rfl rfl (by decide +kernel) (fun w hC => hC.1.cell 8 _ rfl) ?_) | (refine wpQuiet_ld _ _ rfl ⟨bs, off + k * 17 + 1, none⟩ rfl rfl (by decide +kernel) (fun w hC => hC.2) ?_)); simp only [Act.put, List.setIfInBounds_toArray, List.set_cons_zero, List.set_cons_succ]) | go_big_quiet_step (fail))
    refine wpQuiet_nil ?_
    clear kne HB c1
    replace HS := hide HS.out.drew
    generalize W1.drew = Wd at *
    simp only [pickIx, List.getElem?_cons_zero, List.getElem?_cons_succ]
    obtain ⟨C0, hC0⟩ : ∃ C0, C0 = nextC (lz M.clocks) sl M.ceil := ⟨_, rfl⟩
    obtain ⟨K0, hK0⟩ : ∃ K0, K0 = nextK (lz M.clocks) sl M.ceil := ⟨_, rfl⟩
    obtain ⟨E0, hE0⟩ : ∃ E0, E0 = nextE (lz M.clocks) sl M.ceil := ⟨_, rfl⟩
    have hNext := hide fun W => rnext_any (lz M.clocks) sl M.ceil W
    unfold PMach.nextL at eS
    rw [← hC0, ← hK0, ← hE0] at hNext
    rw [← hC0, ← hK0, ← hE0] at eS
    clear hC0 hK0 hE0
    refine ⟨?_, ?_⟩
    case' refine_1 =>
      refine wpRest_cons rfl rfl fun K hK => ?_
      go_big_op
      refine (hNext.out _).mono ?_
      rintro e W3 ⟨rfl, hb⟩
      replace HS := hide (HS.out.on hb)
      clear hb
      refine hK _ _ (fun _ => InC.mk ⟨HS.out.blk 1 rfl, hcs.out _ HS.out.below⟩) ?_
      clear hK K
      (try simp only [Act.put, List.setIfInBounds_toArray, List.set_cons_zero, List.set_cons_succ])
      refine wpRest_move _ rfl rfl rfl ?_
      (try simp only [Act.put, List.setIfInBounds_toArray, List.set_cons_zero, List.set_cons_succ])
      refine wpRest_extract _ 0 rfl rfl rfl rfl ?_
      (try simp only [Act.put, List.setIfInBounds_toArray, List.set_cons_zero, List.set_cons_succ])
      refine wpRest_extract _ 1 rfl rfl rfl rfl ?_
      (try simp only [Act.put, List.setIfInBounds_toArray, List.set_cons_zero, List.set_cons_succ])
      refine wpRest_extract _ 2 rfl rfl rfl rfl ?_
      (try simp only [Act.put, List.setIfInBounds_toArray, List.set_cons_zero, List.set_cons_succ])
      refine wpRest_cons rfl rfl fun K hK => ?_
      refine stw_alloc HS _ rfl zeroQL zeroQ ?_
      clear HS
      intro W4 bc HS
      refine hK _ _ (fun _ => InC.mk ⟨HS.out.blk 2 rfl, hcs.out _ HS.out.below⟩) ?_
      clear hK K
      (try simp only [Act.put, List.setIfInBounds_toArray, List.set_cons_zero, List.set_cons_succ])
    case' refine_2 =>
      refine wpRest_cons rfl rfl fun K hK => ?_
      refine stw_alloc HS _ rfl zeroQL zeroQ ?_
      clear HS
      intro W4 bc HS
      refine hK _ _ (fun _ => InC.mk ⟨HS.out.blk 2 rfl, hcs.out _ HS.out.below⟩) ?_
      clear hK K
      (try simp only [Act.put, List.setIfInBounds_toArray, List.set_cons_zero, List.set_cons_succ])
      refine wpRest_cons rfl rfl fun K hK => ?_
      go_big_op
      refine (hNext.out _).mono ?_
      rintro e W3 ⟨rfl, hb⟩
      replace HS := hide (HS.out.on hb)
      clear hb
      refine hK _ _ (fun _ => InC.mk ⟨HS.out.blk 2 rfl, hcs.out _ HS.out.below⟩) ?_
      clear hK K
      (try simp only [Act.put, List.setIfInBounds_toArray, List.set_cons_zero, List.set_cons_succ])
      refine wpRest_move _ rfl rfl rfl ?_
      (try simp only [Act.put, List.setIfInBounds_toArray, List.set_cons_zero, List.set_cons_succ])
      refine wpRest_extract _ 0 rfl rfl rfl rfl ?_
      (try simp only [Act.put, List.setIfInBounds_toArray, List.set_cons_zero, List.set_cons_succ])
      refine wpRest_extract _ 1 rfl rfl rfl rfl ?_
      (try simp only [Act.put, List.setIfInBounds_toArray, List.set_cons_zero, List.set_cons_succ])
      refine wpRest_extract _ 2 rfl rfl rfl rfl ?_
      (try simp only [Act.put, List.setIfInBounds_toArray, List.set_cons_zero, List.set_cons_succ])
    all_goals
      refine wpRest_cons rfl rfl fun K hK => ?_
      refine stw_storeA HS 0 rfl _ _ _ rfl rfl [.int .i64 (C0 0), .int .i64 (C0 1), .int .i64 (C0 2), .int .i64 (C0 3)] rfl rfl (by kernel_rfl) rfl ?_
      clear HS
      intro W5 HS
      refine hK _ _ (fun h => by cases h) ?_
      clear hK K
      (try simp only [Act.put, List.setIfInBounds_toArray, List.set_cons_zero, List.set_cons_succ])
      refine wpRest_assign _ rfl rfl rfl ?_
      (try simp only [Act.put, List.setIfInBounds_toArray, List.set_cons_zero, List.set_cons_succ])
      refine wpRest_assign _ rfl rfl rfl (wpRest_nil ?_)
      (try simp only [Act.put, List.setIfInBounds_toArray, List.set_cons_zero, List.set_cons_succ])
      refine NoPanic.normal ?_
      replace HS : Hid (St w W5 [blkI bc [.int .i64 (C0 0), .int .i64 (C0 1), .int .i64 (C0 2), .int .i64 (C0 3)], blkI br zeroML, blkI bm (machL A M)]) := HS
      by_cases he : E0 = 0
      · have heb : (E0 != 0) = false := by simpa using he
        rw [decide_eq_true he] at eS
        replace he := hide he
        go_wp2_with (first | ((with_reducible refine isList ?_); first | (refine st_loadA HS 2 rfl _ _ rfl rfl rfl (by decide +kernel) (by kernel_rfl) ?_)))
        refine (hCopy.out _ HS.out.below).mono ?_
        rintro e W2 ⟨A1, rfl, hO, hb⟩
        have HS1 := hide (HS.out.push hb (machI (fun k => _) A1 M) (machI_loc _ _ _) hO fun k hk => hk)
        generalize (fun k => _) = D1 at HS1
        have hk1 : k < A1.s.n := by have := hO.is.sess.1; have := hX.out; omega
        have i4 : (k : Int) < (A1.s.n : Int) := by omega
        obtain ⟨bs1, hbs1, _⟩ := MachOwn.sblk hO hk1
        clear HS hb hO hCopy
        replace HS := hide (HS1.out.doC 0 rfl (c := [C0 0, C0 1, C0 2, C0 3]) rfl)
        clear HS1
        replace hbs1 := hide hbs1
        go_upto_region 7 with (first | ((with_reducible refine isList ?_); first | (refine st_alloc HS _ rfl rfl zeroML zeroM ?_; clear HS; intro W bo HS) | (refine st_storeA HS 0 rfl _ _ _ rfl rfl rfl _ rfl rfl (by kernel_rfl) rfl ?_; clear HS; intro W HS)))
        replace HS : Hid (St w W [blkI bo (machL A1 M), machI D1 A1 (M.doC [C0 0, C0 1, C0 2, C0 3]), blkI bc [.int .i64 (C0 0), .int .i64 (C0 1), .int .i64 (C0 2), .int .i64 (C0 3)], blkI br zeroML, blkI bm (machL A M)]) := HS
        go_upto_region 8 with (first | ((with_reducible refine isList ?_); first | (refine st_loadA HS 2 rfl _ _ rfl rfl rfl (by decide +kernel) (by kernel_rfl) ?_) | (refine st_storeR HS 0 rfl _ _ _ rfl _ rfl rfl [.int .i64 (C0 0), .int .i64 (C0 1), .int .i64 (C0 2), .int .i64 (C0 3)] rfl (Nat.le_of_ble_eq_true rfl) (by kernel_rfl) rfl ?_; clear HS; intro W HS)))
        replace HS : Hid (St w W [blkI bo (machL A1 (M.doC [C0 0, C0 1, C0 2, C0 3])), machI D1 A1 (M.doC [C0 0, C0 1, C0 2, C0 3]), blkI bc [.int .i64 (C0 0), .int .i64 (C0 1), .int .i64 (C0 2), .int .i64 (C0 3)], blkI br zeroML, blkI bm (machL A M)]) := HS
        replace hbs1 := hbs1.out
        generalize M.doC [C0 0, C0 1, C0 2, C0 3] = N at HS eS
        go_wp2_with (first | ((with_reducible refine isList ?_); first | (refine st_load1 HS 0 rfl _ _ rfl _ rfl rfl (by decide +kernel) rfl ?_) | (refine st_storeN HS 1 rfl hk1 hbs1 10 (by decide) _ _ _ rfl _ rfl (show _ = k * 17 + 13 from by with_reducible rfl) rfl rfl (by decide +kernel) ?_; clear HS; intro W HS) | (refine st_storeN HS 1 rfl hk1 hbs1 3 (by decide) _ _ _ rfl _ rfl (show _ = k * 17 + 4 from by with_reducible rfl) rfl rfl (by decide +kernel) ?_; clear HS; intro W HS) | (refine st_loadA HS 0 rfl _ _ rfl rfl rfl (by decide +kernel) (by kernel_rfl) ?_) | (refine st_storeA HS 3 rfl _ _ _ rfl rfl rfl _ rfl rfl (by kernel_rfl) rfl ?_; clear HS; intro W HS)))
        rw [eS.out]
        exact bodyPost_ret (ret_mach2 Tryz.results65 (HS.out.blk 3 rfl) rfl rfl rfl) rfl (mret_of (R := ((N.doN k 10 K0).doN k 3 3, 0)) HS.out 1 (D := D1) (A := A1) rfl)
      · have heb : (E0 != 0) = true := by simpa using he
        rw [decide_eq_false he] at eS
        replace he := hide he
        go_wp2_with (first | ((with_reducible refine isList ?_); first | (refine st_loadA HS 2 rfl _ _ rfl rfl rfl (by decide +kernel) (by kernel_rfl) ?_)))
        refine (hEnd.out _ _ _ _ HS.out.below).mono ?_
        rintro e W2 ⟨A2, rfl, hO, hb⟩
        have HS2 := hide (HS.out.push hb (machI (fun k => _) A2 _) (machI_loc _ _ _) hO fun k hk => hk)
        generalize (fun k => _) = D2 at HS2
        clear hO HS hb
        replace HS := HS2
        clear HS2
        go_wp2_with (first | ((with_reducible refine isList ?_); first | (refine st_storeA HS 2 rfl _ _ _ rfl rfl rfl _ rfl rfl (by kernel_rfl) rfl ?_; clear HS; intro W HS)))
        rw [eS.out]
        exact bodyPost_ret (ret_mach2 Tryz.results65 (HS.out.blk 2 rfl) rfl rfl rfl) rfl (mret_of (R := endP M k 5 0) HS.out 0 (D := D2) (A := A2) rfl)
  · have hrb : (lz (M.at k).num 3 != 2) = true := by simpa using hr
    go_wp2_with (first | ((with_reducible refine isList ?_); first | (refine st_storeA HS 0 rfl _ _ _ rfl rfl rfl _ rfl rfl (by kernel_rfl) rfl ?_; clear HS; intro W HS) | (refine st_load1 HS 1 rfl _ _ rfl _ rfl rfl (by decide +kernel) rfl ?_) | (refine st_loadS (HM.out.below HS.out.below) hk hbs 4 (by decide) rfl _ _ rfl _ rfl (Nat.add_assoc _ _ _) rfl (by decide +kernel) ?_)))
    rw [show stampP M k = (noMach, 1900) by unfold stampP PSess.step; rw [Int.toNat_natCast, decide_eq_false hr, Bool.and_false]; rfl]
    exact bodyPost_ret (ret_mach2 Tryz.results65 (HS.out.blk 0 rfl) rfl rfl rfl) rfl (mret_no HS.out.below)
end Go.Proofs.YtnjognmnbpcaaaaGreat
