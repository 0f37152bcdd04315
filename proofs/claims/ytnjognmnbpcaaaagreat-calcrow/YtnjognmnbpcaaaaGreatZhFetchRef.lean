/-
  The document's Fetch.
-/
import Derived.Test.YtnjognmnbpcaaaaGreatZhCalcRef
import Derived.Test.YtnjognmnbpcaaaaGreatZlah
import Derived.Test.YtnjognmnbpcaaaaGreatZhCheckRef
import Derived.Test.YtnjognmnbpcaaaaGreatZhGrabRef
import Derived.Test.YtnjognmnbpcaaaaGreatZlad
namespace Go.Proofs.YtnjognmnbpcaaaaGreat
open Go.RowKit
set_option linter.unusedSimpArgs false
set_option linter.unusedVariables false
/-- The reads with one more; the register turned, the place one further, told. -/
def PSess.withR (x : PSess) (l i v : Int) : List Int := (List.range (withN x.rn (lz x.reads) l i v * 3)).map (putR (lz x.reads) x.rn l i v)
def gotP (M : PMach) (k a : Nat) (v p : Int) : PMach × Int := (tellP ((M.doN k (5 + a) v).doN k 4 (p + 1)) k 0 v, 0)
def fetchP (M : PMach) (i : Int) : PMach × Int :=
  bif decide ((needsP M i).2 = 0) && !(needsP M i).1 then
    bif findIs (M.at i.toNat).tn (lz (M.at i.toNat).writes) ((M.at i.toNat).ins 2) ((M.at i.toNat).ins 3) then gotP M i.toNat ((M.at i.toNat).ins 1).toNat (findVal (M.at i.toNat).tn (lz (M.at i.toNat).writes) ((M.at i.toNat).ins 2) ((M.at i.toNat).ins 3)) (M.at i.toNat).pc
    else bif decide (M.wz ((M.at i.toNat).ins 2).toNat (((M.at i.toNat).ins 3).toNat * 3 + 2) = 0) && M.good (M.at i.toNat) then
      bif decide (withE (M.at i.toNat).rn (lz (M.at i.toNat).reads) ((M.at i.toNat).ins 2) ((M.at i.toNat).ins 3) (M.wz ((M.at i.toNat).ins 2).toNat (((M.at i.toNat).ins 3).toNat * 3 + 1)) = 0) then
        gotP (M.setS i.toNat ((M.at i.toNat).setL 1 ((M.at i.toNat).withR ((M.at i.toNat).ins 2) ((M.at i.toNat).ins 3) (M.wz ((M.at i.toNat).ins 2).toNat (((M.at i.toNat).ins 3).toNat * 3 + 1))))) i.toNat ((M.at i.toNat).ins 1).toNat (M.wz ((M.at i.toNat).ins 2).toNat (((M.at i.toNat).ins 3).toNat * 3)) (M.at i.toNat).pc
      else (noMach, 1500)
    else againP M i 3
  else (noMach, 1500)
theorem withN_few {n : Nat} {z : Nat → Int} {l i v : Int} (h : readsMay n z = true) : withN n z l i v ≤ 17 := by
  have := (readsMay_get h).2.2
  unfold withN
  cases withOk n z l i v
  · exact Nat.zero_le _
  · cases noneTo z l i n
    · show n ≤ 17; omega
    · show n + 1 ≤ 17; omega
/-- A word that is read, is written, is there. -/
theorem InsAt.there {A : MacM} {M : PMach} {k p : Nat} (h : InsAt A M k p) (hok : SessOk M.lens (M.at k)) (hn : (M.at k).pn = (A.q k).p.n) (hc : lz (M.at k).prog (p * 4) = 2 ∨ lz (M.at k).prog (p * 4) = 3) : thereV M.lens (lz (M.at k).prog (p * 4 + 2)) (lz (M.at k).prog (p * 4 + 3)) = true := by
  have := allTo_get hok.prog p (by rw [hn]; exact h.lt)
  unfold instThere namesW at this
  rcases hc with e | e <;> simpa [e] using this
theorem regs_at {k a : Nat} (ha : a < 4) : k * 17 + 6 + a = k * 17 + posN (5 + a) := by
  unfold posN
  have : a = 0 ∨ a = 1 ∨ a = 2 ∨ a = 3 := by omega
  rcases this with rfl | rfl | rfl | rfl <;> rfl
theorem at_doN {M : PMach} {k j : Nat} {v : Int} (hk : k < M.sess.length) : (M.doN k j v).at k = (M.at k).setN j v := PMach.at_setS hk
theorem setN_other {x : PSess} {j c : Nat} {v : Int} (h : j ≠ c) : lz (x.setN j v).num c = lz x.num c := by
  unfold PSess.setN lz
  simp only [List.getD_eq_getElem?_getD, List.getElem?_set, if_neg h]
set_option maxRecDepth 100000 in
set_option maxHeartbeats 4000000 in
theorem rfetch_any (A : MacM) (M : PMach) (i : Int) (w : World) (h : MachIs w A M) :
    Calls Tryz.prog 84 #[machA A M, .int .i64 i] w (MRet w (fetchP M i)) := by
  have hX := hide h.sess.1
  have hHere := hide fun (i : Int) (W : World) (hb : Below w.heap.size w W) => rhere_any A M i W (h.below hb)
  have hRun := hide fun (k : Nat) (hk : k < A.s.n) (hp : 0 ≤ (M.at k).pc) (W : World) (hb : Below w.heap.size w W) => rrunning_any A M k W (h.below hb) hk hp
  have hNeeds := hide fun (i : Int) (W : World) (hb : Below w.heap.size w W) => rneeds_any A M i W (h.below hb)
  have hAgain := hide fun (i c : Int) (W : World) (hb : Below w.heap.size w W) => ragain_any A M i c W (h.below hb)
  have hEnd := hide fun (i a b : Int) (W : World) (hb : Below w.heap.size w W) => rend_any A M i a b W (h.below hb)
  have hCopy := hide fun (W : World) (hb : Below w.heap.size w W) => rcopyMach_any A M W (h.below hb)
  have hrng := hide fun (k : Nat) (hk : k < A.s.n) (W : World) (hb : Below w.heap.size w W) => (h.below hb).sess.range hk
  have hSes : Hid (∀ (k : Nat) (hk : k < A.s.n) (W : World) (hb : Below w.heap.size w W), SessIs W (A.q k) (M.at k)) := fun k hk W hb => (h.below hb).sess.2.2.2 k hk
  have hIns := hide fun (k : Nat) (hk : k < A.s.n) (hok : SessOk M.lens (M.at k)) (c : Int) (hr : runP (M.at k) = c) (hc : c ≠ -1) => ins_at h hk hok hr hc
  obtain ⟨V0, hV0⟩ : ∃ V0, V0 = machA A M := ⟨_, rfl⟩
  rw [← hV0]
  have HV : Hid (V0.cells = (machL A M).toArray) := by rw [hV0]; rfl
  clear hV0
  have HM := hide h
  have HS := hide (St.refl w)
  clear h
  go_enter Tryz.func84, Tryz.ntmps84
  go_wp2_with (first | ((with_reducible refine isList ?_); first | (refine st_box HS _ _ rfl rfl (machL A M) HV.out ?_; clear HS; intro W bm HS) | (refine st_alloc HS _ rfl rfl zeroML zeroM ?_; clear HS; intro W br HS) | (refine st_loadA HS 1 rfl _ _ rfl rfl rfl (by decide +kernel) (by kernel_rfl) ?_)))
  refine (hNeeds.out i _ HS.out.below).mono ?_
  rintro e W1 ⟨rfl, hb⟩
  replace HS := hide (HS.out.on hb)
  clear hb hNeeds hHere hRun
  by_cases he : (needsP M i).2 = 0
  case neg =>
    have heb : ((needsP M i).2 != 0) = true := by simpa using he
    go_wp2_with (first | ((with_reducible refine isList ?_); first | (refine st_storeA HS 0 rfl _ _ _ rfl rfl rfl _ rfl rfl (by kernel_rfl) rfl ?_; clear HS; intro W HS)))
    rw [show fetchP M i = (noMach, 1500) by unfold fetchP; rw [decide_eq_false he]; rfl]
    exact bodyPost_ret (ret_mach2 Tryz.results84 (HS.out.blk 0 rfl) rfl rfl rfl) rfl (mret_no HS.out.below)
  have heb : ((needsP M i).2 != 0) = false := by simpa using he
  cases hn : (needsP M i).1
  case true =>
    go_wp2_with (first | ((with_reducible refine isList ?_); first | (refine st_storeA HS 0 rfl _ _ _ rfl rfl rfl _ rfl rfl (by kernel_rfl) rfl ?_; clear HS; intro W HS)))
    rw [show fetchP M i = (noMach, 1500) by unfold fetchP; rw [hn, Bool.not_true, Bool.and_false]; rfl]
    exact bodyPost_ret (ret_mach2 Tryz.results84 (HS.out.blk 0 rfl) rfl rfl rfl) rfl (mret_no HS.out.below)
  obtain ⟨hh, hr⟩ := needsP_here he
  obtain ⟨hmay, k, rfl, hk0⟩ := hereP_yes hh
  rw [Int.toNat_natCast] at hr
  have hk : k < A.s.n := by have := hX.out; omega
  have i2 : (k : Int) < (A.s.n : Int) := by omega
  have hok := hide (here_sess hmay hk0)
  obtain ⟨p, hI⟩ := hIns.out k hk hok.out 2 hr (by decide)
  have hcode := hI.code hr (by decide)
  obtain ⟨a, _, _, ⟨ea, ha⟩, _, _⟩ := hI.word (.inl hcode)
  obtain ⟨hl14, hsP, hsR, hsT⟩ := hSes.out k hk _ HS.out.below
  obtain ⟨g, ix, eg, eix, hg, hix⟩ := thereV_get (hI.there hok.out (hsP.len (by decide)) (.inl hcode))
  have hixn : ix < (A.w g).n := by rw [(HM.out.below HS.out.below).lens g hg]; exact hix
  have hlt := hI.lt
  have hfew := hI.few
  have i1 : (p : Int) < ((A.q k).p.n : Int) := by omega
  have i3 : (a : Int) < 4 := by omega
  have i5 : (g : Int) < 4 := by omega
  have i6 : (ix : Int) < ((A.w g).n : Int) := by omega
  obtain ⟨v, hv⟩ : ∃ v, v = M.wz g (ix * 3) := ⟨_, rfl⟩
  obtain ⟨n, hnn⟩ : ∃ n, n = M.wz g (ix * 3 + 1) := ⟨_, rfl⟩
  obtain ⟨l, hl⟩ : ∃ l, l = M.wz g (ix * 3 + 2) := ⟨_, rfl⟩
  have eT : (M.at k).tn = (A.q k).t.n := hsT.len (by decide)
  have eR : (M.at k).rn = (A.q k).r.n := hsR.len (by decide)
  have eG : M.good (M.at k) = goodV A.w M.wz (A.q k).r.n (lz (M.at k).reads) (lz (M.at k).num 0) := by
    unfold PMach.good
    rw [eR]
    exact (good_congr fun g hg => ((HM.out.below HS.out.below).lens g hg).symm).1
  obtain ⟨fv, hfv⟩ : ∃ fv, fv = findVal (A.q k).t.n (lz (M.at k).writes) g ix := ⟨_, rfl⟩
  have eS : Hid (fetchP M k = bif findIs (A.q k).t.n (lz (M.at k).writes) g ix then gotP M k a fv p
      else bif decide (l = 0) && goodV A.w M.wz (A.q k).r.n (lz (M.at k).reads) (lz (M.at k).num 0) then
        bif decide (withE (A.q k).r.n (lz (M.at k).reads) g ix n = 0) then gotP (M.setS k ((M.at k).setL 1 ((M.at k).withR g ix n))) k a v p else (noMach, 1500)
      else againP M k 3) := by
    show fetchP M k = _
    unfold fetchP
    rw [decide_eq_true he, hn, Int.toNat_natCast, hI.ins 1, hI.ins 2, hI.ins 3, ea, eg, eix, Int.toNat_natCast, Int.toNat_natCast, Int.toNat_natCast, eT, eR, eG, ← hv, ← hnn, ← hl, ← hfv, show (M.at k).pc = p from hI.pc]
    rfl
  have hp := hide hI.pc
  have hcw : Hid (∀ W', Below w.heap.size w W' → ∃ bw ow, (A.w g).a = some ⟨bw, ow, none⟩ ∧ W'.rangeAt bw (ow + ix * 3) [.int .i64 v, .int .i64 n, .int .i64 l]) := fun W' hb => by
    obtain ⟨bw, ow, e1, _, e3⟩ := ((HM.out.below hb).words g hg).three hixn
    rw [hv, hnn, hl]
    exact ⟨bw, ow, e1, e3⟩
  have hrok := hok.out.reads
  rw [eR] at hrok
  have hGood := hide fun (W : World) (hb : Below w.heap.size w W) => rgood_any A.w M.wz (A.q k).r.a (A.q k).r.n (A.q k).r.c (lz (M.at k).reads) (lz (M.at k).num 0) W (HM.out.below hb).short (HM.out.below hb).arn (by have := hsR.2.1.1; omega) ((hSes.out k hk W hb).2.2.1.2.2)
  have hFind := hide fun (W : World) (hb : Below w.heap.size w W) => rfindWrite_any (A.q k).t.a (A.q k).t.n (A.q k).t.c (lz (M.at k).writes) g ix W (by have := hsT.2.1.1; omega) ((hSes.out k hk W hb).2.2.2.2.2)
  have hWith := hide fun (W : World) (hb : Below w.heap.size w W) => rwithRead_any (A.q k).r.a (A.q k).r.n (A.q k).r.c (lz (M.at k).reads) g ix n W (by have := hsR.2.1.1; omega) hsR.2.1.2.2 ((hSes.out k hk W hb).2.2.1.2.2)
  rw [← hfv] at hFind
  replace eR := hide eR
  replace hrok := hide hrok
  replace ea := hide ea
  replace eg := hide eg
  replace eix := hide eix
  clear hh hr he hI hIns hmay hcode hl14 hsP hsR hsT hix eT eG hv hnn hl hfv
  go_upto_region 4 with fail
  obtain ⟨bs, off, hbs, hbl, hR⟩ := hrng.out k hk _ HS.out.below
  replace hR := hide hR
  go_upto_region 5 with (first | ((with_reducible refine isList ?_); first | (refine st_load1 HS 1 rfl _ _ rfl _ rfl rfl (by decide +kernel) rfl ?_) | (refine wpList_load_at _ _ rfl rfl bs (off + k * 17) rfl (sessOf (A.q k) (M.at k)) (by decide +kernel) (by kernel_rfl) hR.out ?_) | (refine st_alloc HS _ rfl rfl zeroSL zeroS ?_; clear HS; intro W bx HS) | (refine st_storeA HS 0 rfl _ _ _ rfl rfl rfl _ rfl rfl (by kernel_rfl) rfl ?_; clear HS; intro W HS)))
  replace HS : Hid (St w W [blkI bx (sessL (lz (M.at k).num) (.slice (A.q k).p.a (A.q k).p.n (A.q k).p.c) (.slice (A.q k).r.a (A.q k).r.n (A.q k).r.c) (.slice (A.q k).t.a (A.q k).t.n (A.q k).t.c)), blkI br zeroML, blkI bm (machL A M)]) := HS
  clear hR hbs
  obtain ⟨bp, op, hbp, hpl, hR⟩ := (hSes.out k hk _ HS.out.below).2.1.four hlt
  rw [ea.out, eg.out, eix.out] at hR
  replace hR := hide hR
  have hp5 := hp.out
  go_upto_region 6 with (first | ((with_reducible refine isList ?_); first | (refine st_load1 HS 0 rfl _ _ rfl _ rfl rfl (by decide +kernel) rfl ?_) | (refine wpList_load_at _ _ rfl rfl bp (op + p * 4) rfl [.int .i64 (lz (M.at k).prog (p * 4)), .int .i64 a, .int .i64 g, .int .i64 ix] (by decide +kernel) (by kernel_rfl) hR.out ?_) | (refine st_alloc HS _ rfl rfl zeroIL zeroI ?_; clear HS; intro W bi HS) | (refine st_storeA HS 0 rfl _ _ _ rfl rfl rfl _ rfl rfl (by kernel_rfl) rfl ?_; clear HS; intro W HS)))
  replace HS : Hid (St w W [blkI bi [.int .i64 (lz (M.at k).prog (p * 4)), .int .i64 a, .int .i64 g, .int .i64 ix], blkI bx (sessL (lz (M.at k).num) (.slice (A.q k).p.a (A.q k).p.n (A.q k).p.c) (.slice (A.q k).r.a (A.q k).r.n (A.q k).r.c) (.slice (A.q k).t.a (A.q k).t.n (A.q k).t.c)), blkI br zeroML, blkI bm (machL A M)]) := HS
  clear hR hbp hp5
  go_wp2_with (first | ((with_reducible refine isList ?_); first | (refine st_load1 HS 0 rfl _ _ rfl _ rfl rfl (by decide +kernel) rfl ?_) | (refine st_load1 HS 1 rfl _ _ rfl _ rfl rfl (by decide +kernel) rfl ?_)))
  refine (hFind.out _ HS.out.below).mono ?_
  rintro e w' ⟨rfl, q, rfl⟩
  replace HS := hide (HS.out.drawn q)
  generalize W.drewN q = Wq at *
  clear hFind
  go_wp2_with (first | ((with_reducible refine isList ?_); first | (refine st_loadA HS 3 rfl _ _ rfl rfl rfl (by decide +kernel) (by kernel_rfl) ?_)))
  refine (hCopy.out _ HS.out.below).mono ?_
  rintro e W2 ⟨A1, rfl, hO, hb⟩
  have HS1 := hide (HS.out.push hb (machI (fun k => _) A1 M) (machI_loc _ _ _) hO fun k hk => hk)
  generalize (fun k => _) = D1 at HS1
  have hk1 : k < A1.s.n := by have := hO.is.sess.1; have := hX.out; omega
  have i4 : (k : Int) < (A1.s.n : Int) := by omega
  obtain ⟨bs1, hbs1, _⟩ := MachOwn.sblk hO hk1
  clear HS hb hO hCopy
  replace HS := HS1
  clear HS1
  replace hbs1 := hide hbs1
  go_upto_region 8 with (first | ((with_reducible refine isList ?_); first | (refine st_alloc HS _ rfl rfl zeroML zeroM ?_; clear HS; intro W bo HS) | (refine st_storeA HS 0 rfl _ _ _ rfl rfl rfl _ rfl rfl (by kernel_rfl) rfl ?_; clear HS; intro W HS)))
  replace HS : Hid (St w W [blkI bo (machL A1 M), machI D1 A1 M, blkI bi [.int .i64 (lz (M.at k).prog (p * 4)), .int .i64 a, .int .i64 g, .int .i64 ix], blkI bx (sessL (lz (M.at k).num) (.slice (A.q k).p.a (A.q k).p.n (A.q k).p.c) (.slice (A.q k).r.a (A.q k).r.n (A.q k).r.c) (.slice (A.q k).t.a (A.q k).t.n (A.q k).t.c)), blkI br zeroML, blkI bm (machL A M)]) := HS
  cases hf : findIs (A.q k).t.n (lz (M.at k).writes) g ix
  · rw [hf] at eS
    replace hf := hide hf
    go_upto_region 9 with fail
    obtain ⟨bw, ow, hbw, _⟩ := hcw.out _ HS.out.below
    have hcw2 : Hid (∀ W', Below w.heap.size w W' → W'.rangeAt bw (ow + ix * 3) [.int .i64 v, .int .i64 n, .int .i64 l]) := fun W' hb => by
      obtain ⟨bw', ow', e1, e3⟩ := hcw.out W' hb
      rw [hbw] at e1; cases e1
      exact e3
    have HB2 := HS.out.blk 2 rfl
    have HB5 := HS.out.blk 5 rfl
    (try simp only [Act.put, List.setIfInBounds_toArray, List.set_cons_zero, List.set_cons_succ])
    refine wp_region_mask [true, true, true, true, true, true, true, true, true, false, false] [false, false, false, false, false, false, false, false, false, true, true] [0, 1] (fun w' => Blk w' bi [.int .i64 (lz (M.at k).prog (p * 4)), .int .i64 a, .int .i64 g, .int .i64 ix] ∧ Blk w' bm (machL A M) ∧ w'.rangeAt bw (ow + ix * 3) [.int .i64 v, .int .i64 n, .int .i64 l]) (by kernel_rfl) (by kernel_rfl) (by kernel_rfl) (by decide +kernel) ⟨HB2.drew, HB5.drew, hcw2.out _ HS.out.drew.below⟩ ?_
    intro kne
    simp only [pickAt]
    repeat (first | ((first | (refine wpQuiet_ld _ _ rfl ⟨bi, 2, none⟩ rfl rfl (by decide +kernel) (fun w hC => hC.1.cell 2 _ rfl) ?_) | (refine wpQuiet_ld _ _ rfl ⟨bi, 3, none⟩ rfl rfl (by decide +kernel) (fun w hC => hC.1.cell 3 _ rfl) ?_) | (refine wpQuiet_ld _ _ rfl ⟨bm, g, none⟩ rfl rfl (by decide +kernel) (fun w hC => hC.2.1.cell g _ (machL_lv hg)) ?_) | (refine wpQuiet_la _ _ rfl bw (ow + ix * 3) rfl rfl (by decide +kernel) [.int .i64 v, .int .i64 n, .int .i64 l] (by kernel_rfl) (fun w hC => hC.2.2) ?_)); simp only [Act.put, List.setIfInBounds_toArray, List.set_cons_zero, List.set_cons_succ]) | go_big_quiet_step (fail))
    refine wpQuiet_nil ?_
    clear kne HB2 HB5 hbw
    replace HS := hide HS.out.drew
    generalize W.drew = Wd at *
    refine wpRest_cons rfl rfl fun K hK => ?_
    refine stw_alloc HS _ rfl zeroWL zeroW ?_
    clear HS
    intro W4 b8 HS
    refine hK _ _ (fun _ => InC.mk ⟨HS.out.blk 3 rfl, HS.out.blk 6 rfl, hcw2.out _ HS.out.below⟩) ?_
    clear hK K
    (try simp only [Act.put, List.setIfInBounds_toArray, List.set_cons_zero, List.set_cons_succ])
    refine wpRest_cons rfl rfl fun K hK => ?_
    refine stw_storeA HS 0 rfl _ _ _ rfl rfl [.int .i64 v, .int .i64 n, .int .i64 l] rfl rfl (by kernel_rfl) rfl ?_
    clear HS
    intro W5 HS
    refine hK _ _ (fun h => by cases h) (wpRest_nil ?_)
    clear hK K hcw2 hcw
    (try simp only [Act.put, List.setIfInBounds_toArray, List.set_cons_zero, List.set_cons_succ])
    refine NoPanic.normal ?_
    replace HS : Hid (St w W5 [blkI b8 [.int .i64 v, .int .i64 n, .int .i64 l], blkI bo (machL A1 M), machI D1 A1 M, blkI bi [.int .i64 (lz (M.at k).prog (p * 4)), .int .i64 a, .int .i64 g, .int .i64 ix], blkI bx (sessL (lz (M.at k).num) (.slice (A.q k).p.a (A.q k).p.n (A.q k).p.c) (.slice (A.q k).r.a (A.q k).r.n (A.q k).r.c) (.slice (A.q k).t.a (A.q k).t.n (A.q k).t.c)), blkI br zeroML, blkI bm (machL A M)]) := HS
    go_wp2_with (first | ((with_reducible refine isList ?_); first | (refine st_load1 HS 4 rfl _ _ rfl _ rfl rfl (by decide +kernel) rfl ?_) | (refine st_loadR HS 6 rfl _ _ rfl _ rfl rfl (by decide +kernel) (arenaL A.w) [.int .i64 (lz M.clocks 0), .int .i64 (lz M.clocks 1), .int .i64 (lz M.clocks 2), .int .i64 (lz M.clocks 3), .int .i64 M.ceil, .slice A.s.a A.s.n A.s.c, .slice A.e.a A.e.n A.e.c] (by kernel_rfl) rfl ?_)))
    refine (hGood.out _ HS.out.below).mono ?_
    rintro e W3 ⟨rfl, hb⟩
    replace HS := hide (HS.out.on hb)
    clear hb hGood
    have c2 : W3.cell? ⟨b8, 2, none⟩ = some (.int .i64 l) := (HS.out.blk 0 rfl).cell 2 _ rfl
    by_cases hl0 : l = 0
    · have hlb : (l != 0) = false := by simpa using hl0
      rw [decide_eq_true hl0] at eS
      replace hl0 := hide hl0
      cases hgd : goodV A.w M.wz (A.q k).r.n (lz (M.at k).reads) (lz (M.at k).num 0)
      · rw [hgd] at eS
        replace hgd := hide hgd
        go_upto_region 12 with fail
        clear c2
        go_wp2_with (first | ((with_reducible refine isList ?_); first | (refine st_loadA HS 6 rfl _ _ rfl rfl rfl (by decide +kernel) (by kernel_rfl) ?_)))
        refine (hAgain.out _ _ _ HS.out.below).mono ?_
        (rintro e W2 ⟨A2, rfl, hO, hb⟩; have HS2 := hide (HS.out.push hb (machI (fun k => _) A2 _) (machI_loc _ _ _) hO fun k hk => hk); generalize (fun k => _) = D2 at HS2; clear hO HS hb; replace HS := HS2; clear HS2; go_wp2_with (first | ((with_reducible refine isList ?_); first | (refine st_storeA HS 6 rfl _ _ _ rfl rfl rfl _ rfl rfl (by kernel_rfl) rfl ?_; clear HS; intro W HS))); rw [eS.out]; exact bodyPost_ret (ret_mach2 Tryz.results84 (HS.out.blk 6 rfl) rfl rfl rfl) rfl (mret_of (R := againP M k 3) HS.out 0 (D := D2) (A := A2) rfl))
      · rw [hgd] at eS
        replace hgd := hide hgd
        go_upto_region 13 with fail
        clear c2
        go_wp2_with (first | ((with_reducible refine isList ?_); first | (refine st_load1 HS 0 rfl _ _ rfl _ rfl rfl (by decide +kernel) rfl ?_) | (refine st_load1 HS 3 rfl _ _ rfl _ rfl rfl (by decide +kernel) rfl ?_) | (refine st_load1 HS 4 rfl _ _ rfl _ rfl rfl (by decide +kernel) rfl ?_)))
        refine (hWith.out _ HS.out.below).mono ?_
        rintro e W7 ⟨x, rfl, hx0, hxc, hxn, _, hxo, hb⟩
        have hx17 := withN_few (l := g) (i := ix) (v := n) hrok.out
        by_cases hwe : withE (A.q k).r.n (lz (M.at k).reads) g ix n = 0
        · have hweb : (withE (A.q k).r.n (lz (M.at k).reads) g ix n != 0) = false := by simpa using hwe
          rw [decide_eq_true hwe] at eS
          replace hwe := hide hwe
          have hL := lis_of (D := fun j => W3.heap.size ≤ j ∧ j < W7.heap.size) (k := 3) ⟨by omega, hxc, hx0⟩ fun h0 => by obtain ⟨b, e1, e2, e3, e4⟩ := hxo h0; exact ⟨b, e1, ⟨e2, e3⟩, e4⟩
          rw [show (List.range (x.n * 3)).map (putR (lz (M.at k).reads) (A.q k).r.n g ix n) = (M.at k).withR g ix n by rw [hxn]; unfold PSess.withR; rw [eR.out]] at hL
          have HS1 := hide (HS.out.push hb (lisI (fun j => _) 3 x _) (lisI_loc _ _ _ _) hL fun k hk => hk)
          generalize (fun j => _) = D3 at HS1
          clear hL hxo hxn hx0 hxc hb HS hx17
          replace HS := HS1
          clear HS1
          go_upto_region 16 with fail
          replace HS : Hid (St w W7 [lisI D3 3 x ((M.at k).withR g ix n), blkI b8 [.int .i64 v, .int .i64 n, .int .i64 l], blkI bo (machL A1 M), machI D1 A1 M, blkI bi [.int .i64 (lz (M.at k).prog (p * 4)), .int .i64 a, .int .i64 g, .int .i64 ix], blkI bx (sessL (lz (M.at k).num) (.slice (A.q k).p.a (A.q k).p.n (A.q k).p.c) (.slice (A.q k).r.a (A.q k).r.n (A.q k).r.c) (.slice (A.q k).t.a (A.q k).t.n (A.q k).t.c)), blkI br zeroML, blkI bm (machL A M)]) := HS
          replace hbs1 := hbs1.out
          go_upto_region 17 with (first | ((with_reducible refine isList ?_); first | (refine st_load1 HS 2 rfl _ _ rfl _ rfl rfl (by decide +kernel) rfl ?_) | (refine st_storeL HS 3 0 rfl 1 (by decide) rfl (by decide) hk1 hbs1 _ _ _ rfl _ rfl (show _ = k * 17 + 10 from by with_reducible rfl) rfl rfl (by decide +kernel) ?_; clear HS; intro W HS)))
          have eM : (M.setS k ((M.at k).setL 1 ((M.at k).withR g ix n))).at k = (M.at k).setL 1 ((M.at k).withR g ix n) := PMach.at_setS hk0
          have hkN : k < (M.setS k ((M.at k).setL 1 ((M.at k).withR g ix n))).sess.length := by show k < (M.sess.set k _).length; rw [List.length_set]; exact hk0
          have hpN : Hid (lz ((M.setS k ((M.at k).setL 1 ((M.at k).withR g ix n))).at k).num 4 = p) := by show _ = _; rw [eM]; exact hp.out
          replace HS : Hid (St w W [empI, blkI b8 [.int .i64 v, .int .i64 n, .int .i64 l], blkI bo (machL (A1.setQ k ((A1.q k).setL 1 x)) (M.setS k ((M.at k).setL 1 ((M.at k).withR g ix n)))), machI (fun k => D1 k ∨ D3 k) (A1.setQ k ((A1.q k).setL 1 x)) (M.setS k ((M.at k).setL 1 ((M.at k).withR g ix n))), blkI bi [.int .i64 (lz (M.at k).prog (p * 4)), .int .i64 a, .int .i64 g, .int .i64 ix], blkI bx (sessL (lz (M.at k).num) (.slice (A.q k).p.a (A.q k).p.n (A.q k).p.c) (.slice (A.q k).r.a (A.q k).r.n (A.q k).r.c) (.slice (A.q k).t.a (A.q k).t.n (A.q k).t.c)), blkI br zeroML, blkI bm (machL A M)]) := HS
          replace HS := hide HS.out.tail
          replace hk1 : k < (A1.setQ k ((A1.q k).setL 1 x)).s.n := hk1
          replace i4 : (k : Int) < ((A1.setQ k ((A1.q k).setL 1 x)).s.n : Int) := i4
          have hbs2 : A1.s = (A1.setQ k ((A1.q k).setL 1 x)).s := rfl
          rw [hbs2] at hbs1
          generalize (fun k => D1 k ∨ D3 k) = D2 at HS
          generalize M.setS k ((M.at k).setL 1 ((M.at k).withR g ix n)) = N1 at HS eS hkN hpN eM
          generalize A1.setQ k ((A1.q k).setL 1 x) = A2 at HS hk1 i4 hbs1 hbs2
          clear eM hbs2 hWith hAgain hEnd
          go_upto_region 18 with (first | ((with_reducible refine isList ?_); first | (refine st_load1 HS 0 rfl _ _ rfl _ rfl rfl (by decide +kernel) rfl ?_)))
          replace HS : Hid (St w W [blkI b8 [.int .i64 v, .int .i64 n, .int .i64 l], blkI bo (machL A2 N1), machI D2 A2 N1, blkI bi [.int .i64 (lz (M.at k).prog (p * 4)), .int .i64 a, .int .i64 g, .int .i64 ix], blkI bx (sessL (lz (M.at k).num) (.slice (A.q k).p.a (A.q k).p.n (A.q k).p.c) (.slice (A.q k).r.a (A.q k).r.n (A.q k).r.c) (.slice (A.q k).t.a (A.q k).t.n (A.q k).t.c)), blkI br zeroML, blkI bm (machL A M)]) := HS
          replace HS := hide HS.out.tail
          replace HS : Hid (St w W [blkI bo (machL A2 N1), machI D2 A2 N1, blkI bi [.int .i64 (lz (M.at k).prog (p * 4)), .int .i64 a, .int .i64 g, .int .i64 ix], blkI bx (sessL (lz (M.at k).num) (.slice (A.q k).p.a (A.q k).p.n (A.q k).p.c) (.slice (A.q k).r.a (A.q k).r.n (A.q k).r.c) (.slice (A.q k).t.a (A.q k).t.n (A.q k).t.c)), blkI br zeroML, blkI bm (machL A M)]) := HS
          have HB0 := HS.out.blk 0 rfl
          have HBi := HS.out.blk 2 rfl
          (try simp only [Act.put, List.setIfInBounds_toArray, List.set_cons_zero, List.set_cons_succ])
          refine wp_region_mask [true, true, true, true, true, true, true, true, true, false] [false, false, false, false, false, false, false, false, false, true] [0] (fun w' => Blk w' bo (machL A2 N1) ∧ Blk w' bi [.int .i64 (lz (M.at k).prog (p * 4)), .int .i64 a, .int .i64 g, .int .i64 ix]) (by kernel_rfl) (by kernel_rfl) (by kernel_rfl) (by decide +kernel) ⟨HB0.drew, HBi.drew⟩ ?_
          intro kne
          simp only [pickAt]
          repeat (first | ((first | (refine wpQuiet_ld _ _ rfl ⟨bo, 9, none⟩ rfl rfl (by decide +kernel) (fun w hC => hC.1.cell 9 _ rfl) ?_) | (refine wpQuiet_ld _ _ rfl ⟨bi, 1, none⟩ rfl rfl (by decide +kernel) (fun w hC => hC.2.cell 1 _ rfl) ?_)); simp only [Act.put, List.setIfInBounds_toArray, List.set_cons_zero, List.set_cons_succ]) | go_big_quiet_step (fail))
          refine wpQuiet_nil ?_
          clear kne HB0 HBi
          replace HS := hide HS.out.drew
          generalize World.drew _ = Wd2 at *
          refine wpRest_cons rfl rfl fun K hK => ?_
          refine stw_storeN HS 1 rfl hk1 hbs1 (5 + a) (by omega) _ _ _ rfl _ rfl (regs_at ha) (v := v) rfl (by decide +kernel) ?_
          clear HS
          intro W6 HS
          refine hK _ _ (fun _ => InC.mk ⟨HS.out.blk 0 rfl, HS.out.blk 2 rfl⟩) (wpRest_nil ?_)
          clear hK K
          (try simp only [Act.put, List.setIfInBounds_toArray, List.set_cons_zero, List.set_cons_succ])
          refine NoPanic.normal ?_
          replace HS : Hid (St w W6 [blkI bo (machL A2 (N1.doN k (5 + a) v)), machI D2 A2 (N1.doN k (5 + a) v), blkI bi [.int .i64 (lz (M.at k).prog (p * 4)), .int .i64 a, .int .i64 g, .int .i64 ix], blkI bx (sessL (lz (M.at k).num) (.slice (A.q k).p.a (A.q k).p.n (A.q k).p.c) (.slice (A.q k).r.a (A.q k).r.n (A.q k).r.c) (.slice (A.q k).t.a (A.q k).t.n (A.q k).t.c)), blkI br zeroML, blkI bm (machL A M)]) := HS
          have hp1 : lz ((N1.doN k (5 + a) v).at k).num 4 = p := by rw [at_doN hkN, setN_other (by omega)]; exact hpN.out
          unfold gotP at eS
          generalize N1.doN k (5 + a) v = N2 at HS eS hp1
          go_upto_region 20 with (first | ((with_reducible refine isList ?_); first | (refine st_load1 HS 0 rfl _ _ rfl _ rfl rfl (by decide +kernel) rfl ?_) | (refine st_loadS (MachOwn.is (HS.out.get 1 (x := machI D2 A2 N2) rfl)) hk1 hbs1 5 (by decide) rfl _ _ rfl _ rfl (by rw [Nat.zero_add] <;> rfl) rfl (by decide +kernel) ?_) | (refine st_storeN HS 1 rfl hk1 hbs1 4 (by decide) _ _ _ rfl _ rfl (show _ = k * 17 + 5 from by with_reducible rfl) rfl rfl (by decide +kernel) ?_; clear HS; intro W HS)))
          replace HS : Hid (St w W [blkI bo (machL A2 (N2.doN k 4 ((p : Int) + 1))), machI D2 A2 (N2.doN k 4 ((p : Int) + 1)), blkI bi [.int .i64 (lz (M.at k).prog (p * 4)), .int .i64 a, .int .i64 g, .int .i64 ix], blkI bx (sessL (lz (M.at k).num) (.slice (A.q k).p.a (A.q k).p.n (A.q k).p.c) (.slice (A.q k).r.a (A.q k).r.n (A.q k).r.c) (.slice (A.q k).t.a (A.q k).t.n (A.q k).t.c)), blkI br zeroML, blkI bm (machL A M)]) := HS
          generalize N2.doN k 4 ((p : Int) + 1) = N3 at HS eS
          go_wp2_with (first | ((with_reducible refine isList ?_); first | (refine st_loadA HS 0 rfl _ _ rfl rfl rfl (by decide +kernel) (by kernel_rfl) ?_)))
          refine (rtell_any w _ _ 1 D2 A2 N3 k _ v HS rfl hk1).mono ?_
          rintro e W4 ⟨D4, A4, rfl, HS2, _⟩
          replace HS2 : Hid (St w W4 [blkI bo (machL A2 N3), machI D4 A4 (tellP N3 k 0 v), blkI bi [.int .i64 (lz (M.at k).prog (p * 4)), .int .i64 a, .int .i64 g, .int .i64 ix], blkI bx (sessL (lz (M.at k).num) (.slice (A.q k).p.a (A.q k).p.n (A.q k).p.c) (.slice (A.q k).r.a (A.q k).r.n (A.q k).r.c) (.slice (A.q k).t.a (A.q k).t.n (A.q k).t.c)), blkI br zeroML, blkI bm (machL A M)]) := HS2
          clear HS
          replace HS := HS2
          clear HS2
          go_wp2_with (first | ((with_reducible refine isList ?_); first | (refine st_storeA HS 4 rfl _ _ _ rfl rfl rfl _ rfl rfl (by kernel_rfl) rfl ?_; clear HS; intro W HS)))
          rw [eS.out]
          exact bodyPost_ret (ret_mach2 Tryz.results84 (HS.out.blk 4 rfl) rfl rfl rfl) rfl (mret_of (R := (tellP N3 k 0 v, 0)) HS.out 1 (D := D4) (A := A4) rfl)

        · have hweb : (withE (A.q k).r.n (lz (M.at k).reads) g ix n != 0) = true := by simpa using hwe
          rw [decide_eq_false hwe] at eS
          replace hwe := hide hwe
          replace HS := hide (HS.out.on hb)
          clear hb hxo hxn hx0 hxc hx17
          go_wp2_with (first | ((with_reducible refine isList ?_); first | (refine st_storeA HS 5 rfl _ _ _ rfl rfl rfl _ rfl rfl (by kernel_rfl) rfl ?_; clear HS; intro W HS)))
          rw [eS.out]
          exact bodyPost_ret (ret_mach2 Tryz.results84 (HS.out.blk 5 rfl) rfl rfl rfl) rfl (mret_no HS.out.below)

    · have hlb : (l != 0) = true := by simpa using hl0
      rw [decide_eq_false hl0] at eS
      replace hl0 := hide hl0
      go_upto_region 12 with fail
      clear c2
      go_wp2_with (first | ((with_reducible refine isList ?_); first | (refine st_loadA HS 6 rfl _ _ rfl rfl rfl (by decide +kernel) (by kernel_rfl) ?_)))
      refine (hAgain.out _ _ _ HS.out.below).mono ?_
      (rintro e W2 ⟨A2, rfl, hO, hb⟩; have HS2 := hide (HS.out.push hb (machI (fun k => _) A2 _) (machI_loc _ _ _) hO fun k hk => hk); generalize (fun k => _) = D2 at HS2; clear hO HS hb; replace HS := HS2; clear HS2; go_wp2_with (first | ((with_reducible refine isList ?_); first | (refine st_storeA HS 6 rfl _ _ _ rfl rfl rfl _ rfl rfl (by kernel_rfl) rfl ?_; clear HS; intro W HS))); rw [eS.out]; exact bodyPost_ret (ret_mach2 Tryz.results84 (HS.out.blk 6 rfl) rfl rfl rfl) rfl (mret_of (R := againP M k 3) HS.out 0 (D := D2) (A := A2) rfl))
  · rw [hf] at eS
    replace hf := hide hf
    replace hbs1 := hbs1.out
    have hkN := hk0
    have hpN := hp
    clear hcw hGood hWith hAgain hEnd
    go_upto_region 18 with fail
    have HB0 := HS.out.blk 0 rfl
    have HBi := HS.out.blk 2 rfl
    (try simp only [Act.put, List.setIfInBounds_toArray, List.set_cons_zero, List.set_cons_succ])
    refine wp_region_mask [true, true, true, true, true, true, true, true, true, false] [false, false, false, false, false, false, false, false, false, true] [0] (fun w' => Blk w' bo (machL A1 M) ∧ Blk w' bi [.int .i64 (lz (M.at k).prog (p * 4)), .int .i64 a, .int .i64 g, .int .i64 ix]) (by kernel_rfl) (by kernel_rfl) (by kernel_rfl) (by decide +kernel) ⟨HB0.drew, HBi.drew⟩ ?_
    intro kne
    simp only [pickAt]
    repeat (first | ((first | (refine wpQuiet_ld _ _ rfl ⟨bo, 9, none⟩ rfl rfl (by decide +kernel) (fun w hC => hC.1.cell 9 _ rfl) ?_) | (refine wpQuiet_ld _ _ rfl ⟨bi, 1, none⟩ rfl rfl (by decide +kernel) (fun w hC => hC.2.cell 1 _ rfl) ?_)); simp only [Act.put, List.setIfInBounds_toArray, List.set_cons_zero, List.set_cons_succ]) | go_big_quiet_step (fail))
    refine wpQuiet_nil ?_
    clear kne HB0 HBi
    replace HS := hide HS.out.drew
    generalize World.drew _ = Wd2 at *
    refine wpRest_cons rfl rfl fun K hK => ?_
    refine stw_storeN HS 1 rfl hk1 hbs1 (5 + a) (by omega) _ _ _ rfl _ rfl (regs_at ha) (v := fv) rfl (by decide +kernel) ?_
    clear HS
    intro W6 HS
    refine hK _ _ (fun _ => InC.mk ⟨HS.out.blk 0 rfl, HS.out.blk 2 rfl⟩) (wpRest_nil ?_)
    clear hK K
    (try simp only [Act.put, List.setIfInBounds_toArray, List.set_cons_zero, List.set_cons_succ])
    refine NoPanic.normal ?_
    replace HS : Hid (St w W6 [blkI bo (machL A1 (M.doN k (5 + a) fv)), machI D1 A1 (M.doN k (5 + a) fv), blkI bi [.int .i64 (lz (M.at k).prog (p * 4)), .int .i64 a, .int .i64 g, .int .i64 ix], blkI bx (sessL (lz (M.at k).num) (.slice (A.q k).p.a (A.q k).p.n (A.q k).p.c) (.slice (A.q k).r.a (A.q k).r.n (A.q k).r.c) (.slice (A.q k).t.a (A.q k).t.n (A.q k).t.c)), blkI br zeroML, blkI bm (machL A M)]) := HS
    have hp1 : lz ((M.doN k (5 + a) fv).at k).num 4 = p := by rw [at_doN hkN, setN_other (by omega)]; exact hpN.out
    unfold gotP at eS
    generalize M.doN k (5 + a) fv = N2 at HS eS hp1
    go_upto_region 20 with (first | ((with_reducible refine isList ?_); first | (refine st_load1 HS 0 rfl _ _ rfl _ rfl rfl (by decide +kernel) rfl ?_) | (refine st_loadS (MachOwn.is (HS.out.get 1 (x := machI D1 A1 N2) rfl)) hk1 hbs1 5 (by decide) rfl _ _ rfl _ rfl (by rw [Nat.zero_add] <;> rfl) rfl (by decide +kernel) ?_) | (refine st_storeN HS 1 rfl hk1 hbs1 4 (by decide) _ _ _ rfl _ rfl (show _ = k * 17 + 5 from by with_reducible rfl) rfl rfl (by decide +kernel) ?_; clear HS; intro W HS)))
    replace HS : Hid (St w W [blkI bo (machL A1 (N2.doN k 4 ((p : Int) + 1))), machI D1 A1 (N2.doN k 4 ((p : Int) + 1)), blkI bi [.int .i64 (lz (M.at k).prog (p * 4)), .int .i64 a, .int .i64 g, .int .i64 ix], blkI bx (sessL (lz (M.at k).num) (.slice (A.q k).p.a (A.q k).p.n (A.q k).p.c) (.slice (A.q k).r.a (A.q k).r.n (A.q k).r.c) (.slice (A.q k).t.a (A.q k).t.n (A.q k).t.c)), blkI br zeroML, blkI bm (machL A M)]) := HS
    generalize N2.doN k 4 ((p : Int) + 1) = N3 at HS eS
    go_wp2_with (first | ((with_reducible refine isList ?_); first | (refine st_loadA HS 0 rfl _ _ rfl rfl rfl (by decide +kernel) (by kernel_rfl) ?_)))
    refine (rtell_any w _ _ 1 D1 A1 N3 k _ fv HS rfl hk1).mono ?_
    rintro e W4 ⟨D4, A4, rfl, HS2, _⟩
    replace HS2 : Hid (St w W4 [blkI bo (machL A1 N3), machI D4 A4 (tellP N3 k 0 fv), blkI bi [.int .i64 (lz (M.at k).prog (p * 4)), .int .i64 a, .int .i64 g, .int .i64 ix], blkI bx (sessL (lz (M.at k).num) (.slice (A.q k).p.a (A.q k).p.n (A.q k).p.c) (.slice (A.q k).r.a (A.q k).r.n (A.q k).r.c) (.slice (A.q k).t.a (A.q k).t.n (A.q k).t.c)), blkI br zeroML, blkI bm (machL A M)]) := HS2
    clear HS
    replace HS := HS2
    clear HS2
    go_wp2_with (first | ((with_reducible refine isList ?_); first | (refine st_storeA HS 4 rfl _ _ _ rfl rfl rfl _ rfl rfl (by kernel_rfl) rfl ?_; clear HS; intro W HS)))
    rw [eS.out]
    exact bodyPost_ret (ret_mach2 Tryz.results84 (HS.out.blk 4 rfl) rfl rfl rfl) rfl (mret_of (R := (tellP N3 k 0 fv, 0)) HS.out 1 (D := D4) (A := A4) rfl)
end Go.Proofs.YtnjognmnbpcaaaaGreat
