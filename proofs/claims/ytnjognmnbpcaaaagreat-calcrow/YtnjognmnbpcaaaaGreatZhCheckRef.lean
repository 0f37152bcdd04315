/-
  The document's Check.
-/
import Derived.Test.YtnjognmnbpcaaaaGreatZlah
import Derived.Test.YtnjognmnbpcaaaaGreatZlad
namespace Go.Proofs.YtnjognmnbpcaaaaGreat
open Go.RowKit
set_option linter.unusedSimpArgs false
set_option linter.unusedVariables false
/-- Are its reads good? -/
def PMach.good (M : PMach) (x : PSess) : Bool := goodV M.lens M.wz x.rn (lz x.reads) (lz x.num 0)
def checkP (M : PMach) (i : Int) : PMach × Int :=
  bif hereP M i && decide ((M.at i.toNat).step = 3) then
    bif M.good (M.at i.toNat) then (bif decide ((M.at i.toNat).tn = 0) then endP M i 1 0 else ((M.doN i.toNat 9 0).doN i.toNat 3 4, 0)) else againP M i 3
  else (noMach, 2000)
set_option maxRecDepth 100000 in
set_option maxHeartbeats 2000000 in
theorem rcheck_any (A : MacM) (M : PMach) (i : Int) (w : World) (h : MachIs w A M) :
    Calls Tryz.prog 66 #[machA A M, .int .i64 i] w (MRet w (checkP M i)) := by
  have hX := hide h.sess.1
  have hHere := hide fun (i : Int) (W : World) (hb : Below w.heap.size w W) => rhere_any A M i W (h.below hb)
  have hRun := hide fun (k : Nat) (hk : k < A.s.n) (hp : 0 ≤ (M.at k).pc) (W : World) (hb : Below w.heap.size w W) => rrunning_any A M k W (h.below hb) hk hp
  have hNeeds := hide fun (i : Int) (W : World) (hb : Below w.heap.size w W) => rneeds_any A M i W (h.below hb)
  have hAgain := hide fun (i c : Int) (W : World) (hb : Below w.heap.size w W) => ragain_any A M i c W (h.below hb)
  have hEnd := hide fun (i a b : Int) (W : World) (hb : Below w.heap.size w W) => rend_any A M i a b W (h.below hb)
  have hCopy := hide fun (W : World) (hb : Below w.heap.size w W) => rcopyMach_any A M W (h.below hb)
  have hrng := hide fun (k : Nat) (hk : k < A.s.n) (W : World) (hb : Below w.heap.size w W) => (h.below hb).sess.range hk
  have hSes : Hid (∀ (k : Nat) (hk : k < A.s.n) (W : World) (hb : Below w.heap.size w W), SessIs W (A.q k) (M.at k)) := fun k hk W hb => (h.below hb).sess.2.2.2 k hk
  have hIns := hide fun (k : Nat) (hk : k < A.s.n) (hok : SessOk M.lens (M.at k)) (c : Int) (hr : runP (M.at k) = c) (hc : c ≠ -1) => ins_at h hk hok hr hc
  obtain ⟨V0, hV0⟩ : ∃ V0, V0 = machA A M := ⟨_, rfl⟩
  rw [← hV0]
  have HV : Hid (V0.cells = (machL A M).toArray) := by rw [hV0]; rfl
  clear hV0
  have HM := hide h
  have HS := hide (St.refl w)
  clear h
  go_enter Tryz.func66, Tryz.ntmps66
  go_wp2_with (first | ((with_reducible refine isList ?_); first | (refine st_box HS _ _ rfl rfl (machL A M) HV.out ?_; clear HS; intro W bm HS) | (refine st_alloc HS _ rfl rfl zeroML zeroM ?_; clear HS; intro W br HS) | (refine st_loadA HS 1 rfl _ _ rfl rfl rfl (by decide +kernel) (by kernel_rfl) ?_)))
  refine (hHere.out i _ HS.out.below).mono ?_
  rintro e W1 ⟨rfl, hb⟩
  replace HS := hide (HS.out.on hb)
  clear hb hHere
  cases hh : hereP M i
  case false =>
    go_wp2_with (first | ((with_reducible refine isList ?_); first | (refine st_storeA HS 0 rfl _ _ _ rfl rfl rfl _ rfl rfl (by kernel_rfl) rfl ?_; clear HS; intro W HS)))
    rw [show checkP M i = (noMach, 2000) by unfold checkP; rw [hh]; rfl]
    exact bodyPost_ret (ret_mach2 Tryz.results66 (HS.out.blk 0 rfl) rfl rfl rfl) rfl (mret_no HS.out.below)
  obtain ⟨hmay, k, rfl, hk0⟩ := hereP_yes hh
  have hk : k < A.s.n := by have := hX.out; omega
  have hok := hide (here_sess hmay hk0)
  have i2 : (k : Int) < (A.s.n : Int) := by omega
  replace hmay := hide hmay
  replace hh := hide hh
  obtain ⟨bs, off, hbs, hbl, hR⟩ := (HM.out.below HS.out.below).sess.range hk
  replace hR := hide hR
  by_cases hr : lz (M.at k).num 3 = 3
  · have hrb : (lz (M.at k).num 3 != 3) = false := by simpa using hr
    have eS : Hid (checkP M k = bif M.good (M.at k) then (bif decide ((M.at k).tn = 0) then endP M k 1 0 else ((M.doN k 9 0).doN k 3 4, 0)) else againP M k 3) := by
      show checkP M k = _
      unfold checkP PSess.step; rw [hh.out, Int.toNat_natCast, decide_eq_true hr]; rfl
    replace hr := hide hr
    obtain ⟨hl14, hsP, hsR, hsT⟩ := hSes.out k hk _ HS.out.below
    have eG : M.good (M.at k) = goodV A.w M.wz (A.q k).r.n (lz (M.at k).reads) (lz (M.at k).num 0) := by
      unfold PMach.good PSess.rn
      rw [hsR.len (by decide)]
      exact (good_congr fun g hg => ((HM.out.below HS.out.below).lens g hg).symm).1
    have eT : (M.at k).tn = (A.q k).t.n := hsT.len (by decide)
    rw [eG, eT] at eS
    clear eG eT
    go_upto_region 4 with (first | ((with_reducible refine isList ?_); first | (refine st_load1 HS 1 rfl _ _ rfl _ rfl rfl (by decide +kernel) rfl ?_) | (refine st_loadS (HM.out.below HS.out.below) hk hbs 4 (by decide) rfl _ _ rfl _ rfl (Nat.add_assoc _ _ _) rfl (by decide +kernel) ?_) | (refine wpList_load_at _ _ rfl rfl bs (off + k * 17) rfl (sessOf (A.q k) (M.at k)) (by decide +kernel) (by kernel_rfl) hR.out ?_) | (refine st_alloc HS _ rfl rfl zeroSL zeroS ?_; clear HS; intro W bx HS) | (refine st_storeA HS 0 rfl _ _ _ rfl rfl rfl _ rfl rfl (by kernel_rfl) rfl ?_; clear HS; intro W HS)))
    replace HS : Hid (St w W [blkI bx (sessL (lz (M.at k).num) (.slice (A.q k).p.a (A.q k).p.n (A.q k).p.c) (.slice (A.q k).r.a (A.q k).r.n (A.q k).r.c) (.slice (A.q k).t.a (A.q k).t.n (A.q k).t.c)), blkI br zeroML, blkI bm (machL A M)]) := HS
    have hGood := hide fun (W : World) (hb : Below w.heap.size w W) => rgood_any A.w M.wz (A.q k).r.a (A.q k).r.n (A.q k).r.c (lz (M.at k).reads) (lz (M.at k).num 0) W (HM.out.below hb).short (HM.out.below hb).arn (by have := hsR.2.1.1; omega) ((hSes.out k hk W hb).2.2.1.2.2)
    clear hl14 hsP hsR hsT hR
    go_wp2_with (first | ((with_reducible refine isList ?_); first | (refine st_load1 HS 0 rfl _ _ rfl _ rfl rfl (by decide +kernel) rfl ?_) | (refine st_loadR HS 2 rfl _ _ rfl _ rfl rfl (by decide +kernel) (arenaL A.w) [.int .i64 (lz M.clocks 0), .int .i64 (lz M.clocks 1), .int .i64 (lz M.clocks 2), .int .i64 (lz M.clocks 3), .int .i64 M.ceil, .slice A.s.a A.s.n A.s.c, .slice A.e.a A.e.n A.e.c] (by kernel_rfl) rfl ?_)))
    refine (hGood.out _ HS.out.below).mono ?_
    rintro e W3 ⟨rfl, hb⟩
    replace HS := hide (HS.out.on hb)
    clear hb hGood
    cases hg : goodV A.w M.wz (A.q k).r.n (lz (M.at k).reads) (lz (M.at k).num 0)
    · rw [hg] at eS
      replace hg := hide hg
      go_wp2_with (first | ((with_reducible refine isList ?_); first | (refine st_loadA HS 2 rfl _ _ rfl rfl rfl (by decide +kernel) (by kernel_rfl) ?_)))
      refine (hAgain.out _ _ _ HS.out.below).mono ?_
      (rintro e W2 ⟨A2, rfl, hO, hb⟩; have HS2 := hide (HS.out.push hb (machI (fun k => _) A2 _) (machI_loc _ _ _) hO fun k hk => hk); generalize (fun k => _) = D2 at HS2; clear hO HS hb; replace HS := HS2; clear HS2; go_wp2_with (first | ((with_reducible refine isList ?_); first | (refine st_storeA HS 2 rfl _ _ _ rfl rfl rfl _ rfl rfl (by kernel_rfl) rfl ?_; clear HS; intro W HS))); rw [eS.out]; exact bodyPost_ret (ret_mach2 Tryz.results66 (HS.out.blk 2 rfl) rfl rfl rfl) rfl (mret_of (R := againP M k 3) HS.out 0 (D := D2) (A := A2) rfl))
    · rw [hg] at eS
      replace hg := hide hg
      by_cases ht : (A.q k).t.n = 0
      · have htb : ((A.q k).t.n : Int) = 0 := by omega
        rw [decide_eq_true ht] at eS
        replace ht := hide ht
        go_wp2_with (first | ((with_reducible refine isList ?_); first | (refine st_load1 HS 0 rfl _ _ rfl _ rfl rfl (by decide +kernel) rfl ?_) | (refine st_loadA HS 2 rfl _ _ rfl rfl rfl (by decide +kernel) (by kernel_rfl) ?_)))
        refine (hEnd.out _ _ _ _ HS.out.below).mono ?_
        (rintro e W2 ⟨A2, rfl, hO, hb⟩; have HS2 := hide (HS.out.push hb (machI (fun k => _) A2 _) (machI_loc _ _ _) hO fun k hk => hk); generalize (fun k => _) = D2 at HS2; clear hO HS hb; replace HS := HS2; clear HS2; go_wp2_with (first | ((with_reducible refine isList ?_); first | (refine st_storeA HS 2 rfl _ _ _ rfl rfl rfl _ rfl rfl (by kernel_rfl) rfl ?_; clear HS; intro W HS))); rw [eS.out]; exact bodyPost_ret (ret_mach2 Tryz.results66 (HS.out.blk 2 rfl) rfl rfl rfl) rfl (mret_of (R := endP M k 1 0) HS.out 0 (D := D2) (A := A2) rfl))
      · have htb : ¬ ((A.q k).t.n : Int) = 0 := by omega
        rw [decide_eq_false ht] at eS
        replace ht := hide ht
        go_wp2_with (first | ((with_reducible refine isList ?_); first | (refine st_load1 HS 0 rfl _ _ rfl _ rfl rfl (by decide +kernel) rfl ?_) | (refine st_loadA HS 2 rfl _ _ rfl rfl rfl (by decide +kernel) (by kernel_rfl) ?_)))
        refine (hCopy.out _ HS.out.below).mono ?_
        rintro e W2 ⟨A1, rfl, hO, hb⟩
        have HS1 := hide (HS.out.push hb (machI (fun k => _) A1 M) (machI_loc _ _ _) hO fun k hk => hk)
        generalize (fun k => _) = D1 at HS1
        have hk1 : k < A1.s.n := by have := hO.is.sess.1; have := hX.out; omega
        have i4 : (k : Int) < (A1.s.n : Int) := by omega
        obtain ⟨bs1, hbs1, _⟩ := MachOwn.sblk hO hk1
        clear HS hb hO hCopy
        replace HS := HS1
        clear HS1
        go_wp2_with (first | ((with_reducible refine isList ?_); first | (refine st_alloc HS _ rfl rfl zeroML zeroM ?_; clear HS; intro W bo HS) | (refine st_storeA HS 0 rfl _ _ _ rfl rfl rfl _ rfl rfl (by kernel_rfl) rfl ?_; clear HS; intro W HS) | (refine st_load1 HS 0 rfl _ _ rfl _ rfl rfl (by decide +kernel) rfl ?_) | (refine st_storeN HS 1 rfl hk1 hbs1 9 (by decide) _ _ _ rfl _ rfl (show _ = k * 17 + 12 from by with_reducible rfl) rfl rfl (by decide +kernel) ?_; clear HS; intro W HS) | (refine st_storeN HS 1 rfl hk1 hbs1 3 (by decide) _ _ _ rfl _ rfl (show _ = k * 17 + 4 from by with_reducible rfl) rfl rfl (by decide +kernel) ?_; clear HS; intro W HS) | (refine st_loadA HS 0 rfl _ _ rfl rfl rfl (by decide +kernel) (by kernel_rfl) ?_) | (refine st_storeA HS 3 rfl _ _ _ rfl rfl rfl _ rfl rfl (by kernel_rfl) rfl ?_; clear HS; intro W HS)))
        rw [eS.out]
        exact bodyPost_ret (ret_mach2 Tryz.results66 (HS.out.blk 3 rfl) rfl rfl rfl) rfl (mret_of (R := ((M.doN k 9 0).doN k 3 4, 0)) HS.out 1 (D := D1) (A := A1) rfl)
  · have hrb : (lz (M.at k).num 3 != 3) = true := by simpa using hr
    go_wp2_with (first | ((with_reducible refine isList ?_); first | (refine st_storeA HS 0 rfl _ _ _ rfl rfl rfl _ rfl rfl (by kernel_rfl) rfl ?_; clear HS; intro W HS) | (refine st_load1 HS 1 rfl _ _ rfl _ rfl rfl (by decide +kernel) rfl ?_) | (refine st_loadS (HM.out.below HS.out.below) hk hbs 4 (by decide) rfl _ _ rfl _ rfl (Nat.add_assoc _ _ _) rfl (by decide +kernel) ?_)))
    rw [show checkP M k = (noMach, 2000) by unfold checkP PSess.step; rw [Int.toNat_natCast, decide_eq_false hr, Bool.and_false]; rfl]
    exact bodyPost_ret (ret_mach2 Tryz.results66 (HS.out.blk 0 rfl) rfl rfl rfl) rfl (mret_no HS.out.below)
end Go.Proofs.YtnjognmnbpcaaaaGreat
