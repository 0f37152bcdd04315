/-
  The document's Step.
-/
import Derived.Test.YtnjognmnbpcaaaaGreatZhRunRef
import Derived.Test.YtnjognmnbpcaaaaGreatZhGrabRef
import Derived.Test.YtnjognmnbpcaaaaGreatZhStampRef
import Derived.Test.YtnjognmnbpcaaaaGreatZhCheckRef
import Derived.Test.YtnjognmnbpcaaaaGreatZhBackRef
namespace Go.Proofs.YtnjognmnbpcaaaaGreat
open Go.RowKit
set_option linter.unusedSimpArgs false
set_option linter.unusedVariables false
/-- What a step does, by the session's step. -/
def stepsP (M : PMach) (k : Nat) : PMach × Int :=
  if (M.at k).step = 0 then runsP M k else if (M.at k).step = 1 then grabP M k else if (M.at k).step = 2 then stampP M k else if (M.at k).step = 3 then checkP M k else if (M.at k).step = 4 then backP M k else if (M.at k).step = 5 then parkP M k else (M, 0)
def stepP (M : PMach) (i : Int) : PMach × Int :=
  bif hereP M i then (bif decide ((stepsP M i.toNat).2 = 0) then ((stepsP M i.toNat).1, 0) else (noMach, 2300)) else (noMach, 2300)
set_option maxRecDepth 100000 in
set_option maxHeartbeats 4000000 in
theorem rstep_any (A : MacM) (M : PMach) (i : Int) (w : World) (h : MachIs w A M) :
    Calls Tryz.prog 35 #[machA A M, .int .i64 i] w (MRet w (stepP M i)) := by
  have hX := hide h.sess.1
  have hHere := hide fun (i : Int) (W : World) (hb : Below w.heap.size w W) => rhere_any A M i W (h.below hb)
  have hRun := hide fun (k : Nat) (hk : k < A.s.n) (hp : 0 ≤ (M.at k).pc) (W : World) (hb : Below w.heap.size w W) => rrunning_any A M k W (h.below hb) hk hp
  have hNeeds := hide fun (i : Int) (W : World) (hb : Below w.heap.size w W) => rneeds_any A M i W (h.below hb)
  have hAgain := hide fun (i c : Int) (W : World) (hb : Below w.heap.size w W) => ragain_any A M i c W (h.below hb)
  have hEnd := hide fun (i a b : Int) (W : World) (hb : Below w.heap.size w W) => rend_any A M i a b W (h.below hb)
  have hCopy := hide fun (W : World) (hb : Below w.heap.size w W) => rcopyMach_any A M W (h.below hb)
  have hrng := hide fun (k : Nat) (hk : k < A.s.n) (W : World) (hb : Below w.heap.size w W) => (h.below hb).sess.range hk
  have hSes : Hid (∀ (k : Nat) (hk : k < A.s.n) (W : World) (hb : Below w.heap.size w W), SessIs W (A.q k) (M.at k)) := fun k hk W hb => (h.below hb).sess.2.2.2 k hk
  have hIns := hide fun (k : Nat) (hk : k < A.s.n) (hok : SessOk M.lens (M.at k)) (c : Int) (hr : runP (M.at k) = c) (hc : c ≠ -1) => ins_at h hk hok hr hc
  clear hRun hNeeds hAgain hEnd hSes hIns
  obtain ⟨V0, hV0⟩ : ∃ V0, V0 = machA A M := ⟨_, rfl⟩
  rw [← hV0]
  have HV : Hid (V0.cells = (machL A M).toArray) := by rw [hV0]; rfl
  clear hV0
  have HM := hide h
  have HS := hide (St.refl w)
  clear h
  go_enter Tryz.func35, Tryz.ntmps35
  go_wp2_with (first | ((with_reducible refine isList ?_); first | (refine st_box HS _ _ rfl rfl (machL A M) HV.out ?_; clear HS; intro W bm HS) | (refine st_alloc HS _ rfl rfl zeroML zeroM ?_; clear HS; intro W br HS) | (refine st_loadA HS 1 rfl _ _ rfl rfl rfl (by decide +kernel) (by kernel_rfl) ?_)))
  refine (hHere.out i _ HS.out.below).mono ?_
  rintro e W1 ⟨rfl, hb⟩
  replace HS := hide (HS.out.on hb)
  clear hb hHere
  cases hh : hereP M i
  case false =>
    go_wp2_with (first | ((with_reducible refine isList ?_); first | (refine st_storeA HS 0 rfl _ _ _ rfl rfl rfl _ rfl rfl (by kernel_rfl) rfl ?_; clear HS; intro W HS)))
    rw [show stepP M i = (noMach, 2300) by unfold stepP; rw [hh]; rfl]
    exact bodyPost_ret (ret_mach2 Tryz.results35 (HS.out.blk 0 rfl) rfl rfl rfl) rfl (mret_no HS.out.below)
  obtain ⟨hmay, k, rfl, hk0⟩ := hereP_yes hh
  have hk : k < A.s.n := by have := hX.out; omega
  have hok := hide (here_sess hmay hk0)
  have i2 : (k : Int) < (A.s.n : Int) := by omega
  replace hmay := hide hmay
  replace hh := hide hh
  have eS : Hid (stepP M k = (bif decide ((stepsP M k).2 = 0) then ((stepsP M k).1, 0) else (noMach, 2300))) := by show _ = _; unfold stepP; rw [hh.out, Int.toNat_natCast]; rfl
  go_wp2_with (first | ((with_reducible refine isList ?_); first | (refine st_loadA HS 1 rfl _ _ rfl rfl rfl (by decide +kernel) (by kernel_rfl) ?_)))
  refine (hCopy.out _ HS.out.below).mono ?_
  rintro e W2 ⟨A1, rfl, hO, hb⟩
  have HS1 := hide (HS.out.push hb (machI (fun k => _) A1 M) (machI_loc _ _ _) hO fun k hk => hk)
  generalize (fun k => _) = D1 at HS1
  clear HS hb hO hCopy
  replace HS := HS1
  clear HS1
  go_upto_region 4 with (first | ((with_reducible refine isList ?_); first | (refine st_alloc HS _ rfl rfl zeroML zeroM ?_; clear HS; intro W bo HS) | (refine st_storeA HS 0 rfl _ _ _ rfl rfl rfl _ rfl rfl (by kernel_rfl) rfl ?_; clear HS; intro W HS)))
  replace HS : Hid (St w W [blkI bo (machL A1 M), machI D1 A1 M, blkI br zeroML, blkI bm (machL A M)]) := HS
  obtain ⟨bs, off, hbs, hbl, hR⟩ := hrng.out k hk _ HS.out.below
  have c9 : W.cell? ⟨bm, 9, none⟩ = some (.slice A.s.a A.s.n A.s.c) := (HS.out.blk 3 rfl).cell 9 _ rfl
  rw [hbs] at c9
  have c4 : W.cell? ⟨bs, off + k * 17 + 4, none⟩ = some (.int .i64 (lz (M.at k).num 3)) := hR 4 _ rfl
  obtain ⟨st, hst⟩ : ∃ st, st = lz (M.at k).num 3 := ⟨_, rfl⟩
  rw [← hst] at c4
  have hst' : (M.at k).step = st := hst.symm
  clear hR hrng
  by_cases h0 : st = 0
  · subst h0
    have eP : stepsP M k = runsP M k := by unfold stepsP; rw [if_pos hst']
    rw [eP] at eS
    clear eP
    replace hst := hide hst
    replace hst' := hide hst'
    go_upto_region 6 with fail
    clear c9 c4
    go_wp2_with (first | ((with_reducible refine isList ?_); first | (refine st_loadA HS 3 rfl _ _ rfl rfl rfl (by decide +kernel) (by kernel_rfl) ?_)))
    refine (rrun_any A M k _ (HM.out.below HS.out.below) hk hmay.out).mono ?_
    rintro e W3 ⟨A2, rfl, hO, hb⟩
    have HS2 := hide (HS.out.push hb (machI (fun k => _) A2 _) (machI_loc _ _ _) hO fun k hk => hk)
    generalize (fun k => _) = D2 at HS2
    clear hO HS hb
    replace HS := HS2
    clear HS2
    go_upto_region 17 with (first | ((with_reducible refine isList ?_); first | (refine st_storeA HS 1 rfl _ _ _ rfl rfl rfl _ rfl rfl (by kernel_rfl) rfl ?_; clear HS; intro W HS)))
    replace HS : Hid (St w W [machI D2 A2 (runsP M k).1, blkI bo (machL A2 (runsP M k).1), machI D1 A1 M, blkI br zeroML, blkI bm (machL A M)]) := HS
    by_cases he : (runsP M k).2 = 0
    · have heb : ((runsP M k).2 != 0) = false := by simpa using he
      rw [decide_eq_true he] at eS
      replace he := hide he
      go_wp2_with (first | ((with_reducible refine isList ?_); first | (refine st_loadA HS 1 rfl _ _ rfl rfl rfl (by decide +kernel) (by kernel_rfl) ?_) | (refine st_storeA HS 3 rfl _ _ _ rfl rfl rfl _ rfl rfl (by kernel_rfl) rfl ?_; clear HS; intro W HS)))
      rw [eS.out]
      exact bodyPost_ret (ret_mach2 Tryz.results35 (HS.out.blk 3 rfl) rfl rfl rfl) rfl (mret_of (R := ((runsP M k).1, 0)) HS.out 0 (D := D2) (A := A2) rfl)
    · have heb : ((runsP M k).2 != 0) = true := by simpa using he
      rw [decide_eq_false he] at eS
      replace he := hide he
      go_wp2_with (first | ((with_reducible refine isList ?_); first | (refine st_storeA HS 3 rfl _ _ _ rfl rfl rfl _ rfl rfl (by kernel_rfl) rfl ?_; clear HS; intro W HS)))
      rw [eS.out]
      exact bodyPost_ret (ret_mach2 Tryz.results35 (HS.out.blk 3 rfl) rfl rfl rfl) rfl (mret_no HS.out.below)
  by_cases h1 : st = 1
  · subst h1
    have eP : stepsP M k = grabP M k := by unfold stepsP; rw [if_neg (by omega), if_pos hst']
    rw [eP] at eS
    clear eP
    replace hst := hide hst
    replace hst' := hide hst'
    go_upto_region 8 with fail
    clear c9 c4
    go_wp2_with (first | ((with_reducible refine isList ?_); first | (refine st_loadA HS 3 rfl _ _ rfl rfl rfl (by decide +kernel) (by kernel_rfl) ?_)))
    refine (rgrab_any A M k _ (HM.out.below HS.out.below)).mono ?_
    rintro e W3 ⟨A2, rfl, hO, hb⟩
    have HS2 := hide (HS.out.push hb (machI (fun k => _) A2 _) (machI_loc _ _ _) hO fun k hk => hk)
    generalize (fun k => _) = D2 at HS2
    clear hO HS hb
    replace HS := HS2
    clear HS2
    go_upto_region 17 with (first | ((with_reducible refine isList ?_); first | (refine st_storeA HS 1 rfl _ _ _ rfl rfl rfl _ rfl rfl (by kernel_rfl) rfl ?_; clear HS; intro W HS)))
    replace HS : Hid (St w W [machI D2 A2 (grabP M k).1, blkI bo (machL A2 (grabP M k).1), machI D1 A1 M, blkI br zeroML, blkI bm (machL A M)]) := HS
    by_cases he : (grabP M k).2 = 0
    · have heb : ((grabP M k).2 != 0) = false := by simpa using he
      rw [decide_eq_true he] at eS
      replace he := hide he
      go_wp2_with (first | ((with_reducible refine isList ?_); first | (refine st_loadA HS 1 rfl _ _ rfl rfl rfl (by decide +kernel) (by kernel_rfl) ?_) | (refine st_storeA HS 3 rfl _ _ _ rfl rfl rfl _ rfl rfl (by kernel_rfl) rfl ?_; clear HS; intro W HS)))
      rw [eS.out]
      exact bodyPost_ret (ret_mach2 Tryz.results35 (HS.out.blk 3 rfl) rfl rfl rfl) rfl (mret_of (R := ((grabP M k).1, 0)) HS.out 0 (D := D2) (A := A2) rfl)
    · have heb : ((grabP M k).2 != 0) = true := by simpa using he
      rw [decide_eq_false he] at eS
      replace he := hide he
      go_wp2_with (first | ((with_reducible refine isList ?_); first | (refine st_storeA HS 3 rfl _ _ _ rfl rfl rfl _ rfl rfl (by kernel_rfl) rfl ?_; clear HS; intro W HS)))
      rw [eS.out]
      exact bodyPost_ret (ret_mach2 Tryz.results35 (HS.out.blk 3 rfl) rfl rfl rfl) rfl (mret_no HS.out.below)
  by_cases h2 : st = 2
  · subst h2
    have eP : stepsP M k = stampP M k := by unfold stepsP; rw [if_neg (by omega), if_neg (by omega), if_pos hst']
    rw [eP] at eS
    clear eP
    replace hst := hide hst
    replace hst' := hide hst'
    go_upto_region 10 with fail
    clear c9 c4
    go_wp2_with (first | ((with_reducible refine isList ?_); first | (refine st_loadA HS 3 rfl _ _ rfl rfl rfl (by decide +kernel) (by kernel_rfl) ?_)))
    refine (rstamp_any A M k _ (HM.out.below HS.out.below)).mono ?_
    rintro e W3 ⟨A2, rfl, hO, hb⟩
    have HS2 := hide (HS.out.push hb (machI (fun k => _) A2 _) (machI_loc _ _ _) hO fun k hk => hk)
    generalize (fun k => _) = D2 at HS2
    clear hO HS hb
    replace HS := HS2
    clear HS2
    go_upto_region 17 with (first | ((with_reducible refine isList ?_); first | (refine st_storeA HS 1 rfl _ _ _ rfl rfl rfl _ rfl rfl (by kernel_rfl) rfl ?_; clear HS; intro W HS)))
    replace HS : Hid (St w W [machI D2 A2 (stampP M k).1, blkI bo (machL A2 (stampP M k).1), machI D1 A1 M, blkI br zeroML, blkI bm (machL A M)]) := HS
    by_cases he : (stampP M k).2 = 0
    · have heb : ((stampP M k).2 != 0) = false := by simpa using he
      rw [decide_eq_true he] at eS
      replace he := hide he
      go_wp2_with (first | ((with_reducible refine isList ?_); first | (refine st_loadA HS 1 rfl _ _ rfl rfl rfl (by decide +kernel) (by kernel_rfl) ?_) | (refine st_storeA HS 3 rfl _ _ _ rfl rfl rfl _ rfl rfl (by kernel_rfl) rfl ?_; clear HS; intro W HS)))
      rw [eS.out]
      exact bodyPost_ret (ret_mach2 Tryz.results35 (HS.out.blk 3 rfl) rfl rfl rfl) rfl (mret_of (R := ((stampP M k).1, 0)) HS.out 0 (D := D2) (A := A2) rfl)
    · have heb : ((stampP M k).2 != 0) = true := by simpa using he
      rw [decide_eq_false he] at eS
      replace he := hide he
      go_wp2_with (first | ((with_reducible refine isList ?_); first | (refine st_storeA HS 3 rfl _ _ _ rfl rfl rfl _ rfl rfl (by kernel_rfl) rfl ?_; clear HS; intro W HS)))
      rw [eS.out]
      exact bodyPost_ret (ret_mach2 Tryz.results35 (HS.out.blk 3 rfl) rfl rfl rfl) rfl (mret_no HS.out.below)
  by_cases h3 : st = 3
  · subst h3
    have eP : stepsP M k = checkP M k := by unfold stepsP; rw [if_neg (by omega), if_neg (by omega), if_neg (by omega), if_pos hst']
    rw [eP] at eS
    clear eP
    replace hst := hide hst
    replace hst' := hide hst'
    go_upto_region 12 with fail
    clear c9 c4
    go_wp2_with (first | ((with_reducible refine isList ?_); first | (refine st_loadA HS 3 rfl _ _ rfl rfl rfl (by decide +kernel) (by kernel_rfl) ?_)))
    refine (rcheck_any A M k _ (HM.out.below HS.out.below)).mono ?_
    rintro e W3 ⟨A2, rfl, hO, hb⟩
    have HS2 := hide (HS.out.push hb (machI (fun k => _) A2 _) (machI_loc _ _ _) hO fun k hk => hk)
    generalize (fun k => _) = D2 at HS2
    clear hO HS hb
    replace HS := HS2
    clear HS2
    go_upto_region 17 with (first | ((with_reducible refine isList ?_); first | (refine st_storeA HS 1 rfl _ _ _ rfl rfl rfl _ rfl rfl (by kernel_rfl) rfl ?_; clear HS; intro W HS)))
    replace HS : Hid (St w W [machI D2 A2 (checkP M k).1, blkI bo (machL A2 (checkP M k).1), machI D1 A1 M, blkI br zeroML, blkI bm (machL A M)]) := HS
    by_cases he : (checkP M k).2 = 0
    · have heb : ((checkP M k).2 != 0) = false := by simpa using he
      rw [decide_eq_true he] at eS
      replace he := hide he
      go_wp2_with (first | ((with_reducible refine isList ?_); first | (refine st_loadA HS 1 rfl _ _ rfl rfl rfl (by decide +kernel) (by kernel_rfl) ?_) | (refine st_storeA HS 3 rfl _ _ _ rfl rfl rfl _ rfl rfl (by kernel_rfl) rfl ?_; clear HS; intro W HS)))
      rw [eS.out]
      exact bodyPost_ret (ret_mach2 Tryz.results35 (HS.out.blk 3 rfl) rfl rfl rfl) rfl (mret_of (R := ((checkP M k).1, 0)) HS.out 0 (D := D2) (A := A2) rfl)
    · have heb : ((checkP M k).2 != 0) = true := by simpa using he
      rw [decide_eq_false he] at eS
      replace he := hide he
      go_wp2_with (first | ((with_reducible refine isList ?_); first | (refine st_storeA HS 3 rfl _ _ _ rfl rfl rfl _ rfl rfl (by kernel_rfl) rfl ?_; clear HS; intro W HS)))
      rw [eS.out]
      exact bodyPost_ret (ret_mach2 Tryz.results35 (HS.out.blk 3 rfl) rfl rfl rfl) rfl (mret_no HS.out.below)
  by_cases h4 : st = 4
  · subst h4
    have eP : stepsP M k = backP M k := by unfold stepsP; rw [if_neg (by omega), if_neg (by omega), if_neg (by omega), if_neg (by omega), if_pos hst']
    rw [eP] at eS
    clear eP
    replace hst := hide hst
    replace hst' := hide hst'
    go_upto_region 14 with fail
    clear c9 c4
    go_wp2_with (first | ((with_reducible refine isList ?_); first | (refine st_loadA HS 3 rfl _ _ rfl rfl rfl (by decide +kernel) (by kernel_rfl) ?_)))
    refine (rback_any A M k _ (HM.out.below HS.out.below)).mono ?_
    rintro e W3 ⟨A2, rfl, hO, hb⟩
    have HS2 := hide (HS.out.push hb (machI (fun k => _) A2 _) (machI_loc _ _ _) hO fun k hk => hk)
    generalize (fun k => _) = D2 at HS2
    clear hO HS hb
    replace HS := HS2
    clear HS2
    go_upto_region 17 with (first | ((with_reducible refine isList ?_); first | (refine st_storeA HS 1 rfl _ _ _ rfl rfl rfl _ rfl rfl (by kernel_rfl) rfl ?_; clear HS; intro W HS)))
    replace HS : Hid (St w W [machI D2 A2 (backP M k).1, blkI bo (machL A2 (backP M k).1), machI D1 A1 M, blkI br zeroML, blkI bm (machL A M)]) := HS
    by_cases he : (backP M k).2 = 0
    · have heb : ((backP M k).2 != 0) = false := by simpa using he
      rw [decide_eq_true he] at eS
      replace he := hide he
      go_wp2_with (first | ((with_reducible refine isList ?_); first | (refine st_loadA HS 1 rfl _ _ rfl rfl rfl (by decide +kernel) (by kernel_rfl) ?_) | (refine st_storeA HS 3 rfl _ _ _ rfl rfl rfl _ rfl rfl (by kernel_rfl) rfl ?_; clear HS; intro W HS)))
      rw [eS.out]
      exact bodyPost_ret (ret_mach2 Tryz.results35 (HS.out.blk 3 rfl) rfl rfl rfl) rfl (mret_of (R := ((backP M k).1, 0)) HS.out 0 (D := D2) (A := A2) rfl)
    · have heb : ((backP M k).2 != 0) = true := by simpa using he
      rw [decide_eq_false he] at eS
      replace he := hide he
      go_wp2_with (first | ((with_reducible refine isList ?_); first | (refine st_storeA HS 3 rfl _ _ _ rfl rfl rfl _ rfl rfl (by kernel_rfl) rfl ?_; clear HS; intro W HS)))
      rw [eS.out]
      exact bodyPost_ret (ret_mach2 Tryz.results35 (HS.out.blk 3 rfl) rfl rfl rfl) rfl (mret_no HS.out.below)
  by_cases h5 : st = 5
  · subst h5
    have eP : stepsP M k = parkP M k := by unfold stepsP; rw [if_neg (by omega), if_neg (by omega), if_neg (by omega), if_neg (by omega), if_neg (by omega), if_pos hst']
    rw [eP] at eS
    clear eP
    replace hst := hide hst
    replace hst' := hide hst'
    go_upto_region 16 with fail
    clear c9 c4
    go_wp2_with (first | ((with_reducible refine isList ?_); first | (refine st_loadA HS 3 rfl _ _ rfl rfl rfl (by decide +kernel) (by kernel_rfl) ?_)))
    refine (rpark_any A M k _ (HM.out.below HS.out.below)).mono ?_
    rintro e W3 ⟨A2, rfl, hO, hb⟩
    have HS2 := hide (HS.out.push hb (machI (fun k => _) A2 _) (machI_loc _ _ _) hO fun k hk => hk)
    generalize (fun k => _) = D2 at HS2
    clear hO HS hb
    replace HS := HS2
    clear HS2
    go_upto_region 17 with (first | ((with_reducible refine isList ?_); first | (refine st_storeA HS 1 rfl _ _ _ rfl rfl rfl _ rfl rfl (by kernel_rfl) rfl ?_; clear HS; intro W HS)))
    replace HS : Hid (St w W [machI D2 A2 (parkP M k).1, blkI bo (machL A2 (parkP M k).1), machI D1 A1 M, blkI br zeroML, blkI bm (machL A M)]) := HS
    by_cases he : (parkP M k).2 = 0
    · have heb : ((parkP M k).2 != 0) = false := by simpa using he
      rw [decide_eq_true he] at eS
      replace he := hide he
      go_wp2_with (first | ((with_reducible refine isList ?_); first | (refine st_loadA HS 1 rfl _ _ rfl rfl rfl (by decide +kernel) (by kernel_rfl) ?_) | (refine st_storeA HS 3 rfl _ _ _ rfl rfl rfl _ rfl rfl (by kernel_rfl) rfl ?_; clear HS; intro W HS)))
      rw [eS.out]
      exact bodyPost_ret (ret_mach2 Tryz.results35 (HS.out.blk 3 rfl) rfl rfl rfl) rfl (mret_of (R := ((parkP M k).1, 0)) HS.out 0 (D := D2) (A := A2) rfl)
    · have heb : ((parkP M k).2 != 0) = true := by simpa using he
      rw [decide_eq_false he] at eS
      replace he := hide he
      go_wp2_with (first | ((with_reducible refine isList ?_); first | (refine st_storeA HS 3 rfl _ _ _ rfl rfl rfl _ rfl rfl (by kernel_rfl) rfl ?_; clear HS; intro W HS)))
      rw [eS.out]
      exact bodyPost_ret (ret_mach2 Tryz.results35 (HS.out.blk 3 rfl) rfl rfl rfl) rfl (mret_no HS.out.below)
  have eP : stepsP M k = (M, 0) := by unfold stepsP; rw [if_neg (by omega), if_neg (by omega), if_neg (by omega), if_neg (by omega), if_neg (by omega), if_neg (by omega)]
  rw [eP] at eS
  have hb0 : (st == 0) = false := by simpa using h0
  have hb1 : (st == 1) = false := by simpa using h1
  have hb2 : (st == 2) = false := by simpa using h2
  have hb3 : (st == 3) = false := by simpa using h3
  have hb4 : (st == 4) = false := by simpa using h4
  have hb5 : (st == 5) = false := by simpa using h5
  replace hst := hide hst
  replace hst' := hide hst'
  clear eP h0 h1 h2 h3 h4 h5
  go_upto_region 17 with fail
  clear c9 c4
  go_wp2_with (first | ((with_reducible refine isList ?_); first | (refine st_loadA HS 0 rfl _ _ rfl rfl rfl (by decide +kernel) (by kernel_rfl) ?_) | (refine st_storeA HS 2 rfl _ _ _ rfl rfl rfl _ rfl rfl (by kernel_rfl) rfl ?_; clear HS; intro W HS)))
  rw [eS.out]
  exact bodyPost_ret (ret_mach2 Tryz.results35 (HS.out.blk 2 rfl) rfl rfl rfl) rfl (mret_of (R := (M, 0)) HS.out 1 (D := D1) (A := A1) rfl)
end Go.Proofs.YtnjognmnbpcaaaaGreat
