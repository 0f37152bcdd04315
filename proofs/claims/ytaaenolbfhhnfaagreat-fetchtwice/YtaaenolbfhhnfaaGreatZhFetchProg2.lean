/-
  The landed fetch: Step.
-/
import Derived.Test.YtaaenolbfhhnfaaGreatZlbf
namespace Go.Proofs.YtaaenolbfhhnfaaGreat
open Go.RowKit
set_option linter.unusedSimpArgs false
set_option linter.unusedVariables false
set_option maxRecDepth 100000 in
set_option maxHeartbeats 4000000 in
theorem fetchStep_any (A : MacM) (M : PMach) (i : Int) (w : World) (h : MachIs w A M) :
    Calls Tryz.prog 33 #[machA A M, .int .i64 i] w (MRet w (fetchP M i)) := by
  have hX := hide h.sess.1
  have hrng := hide fun (k : Nat) (hk : k < A.s.n) (W : World) (hb : Below w.heap.size w W) => (h.below hb).sess.range hk
  have hSes : Hid (∀ (k : Nat) (hk : k < A.s.n) (W : World) (hb : Below w.heap.size w W), SessIs W (A.q k) (M.at k)) := fun k hk W hb => (h.below hb).sess.2.2.2 k hk
  have hIns := hide fun (k : Nat) (hk : k < A.s.n) (hok : SessOk M.lens (M.at k)) (c : Int) (hr : runP (M.at k) = c) (hc : c ≠ -1) => ins_at h hk hok hr hc
  have hNe := hide fun (W : World) (hb : Below w.heap.size w W) => driftNeeds_any A M i W (h.below hb)
  have hAgain := hide fun (W : World) (hb : Below w.heap.size w W) => undoAgain_any A M i 3 W (h.below hb)
  obtain ⟨V0, hV0⟩ : ∃ V0, V0 = machA A M := ⟨_, rfl⟩
  rw [← hV0]
  have HV : Hid (V0.cells = (machL A M).toArray) := by rw [hV0]; rfl
  clear hV0
  have HM := hide h
  have HS := hide (St.refl w)
  clear h
  go_enter Tryz.func33, Tryz.ntmps33
  go_wp2_with (first | ((with_reducible refine isList ?_); first | (refine st_box HS _ _ rfl rfl (machL A M) HV.out ?_; clear HS; intro W bm HS) | (refine st_alloc HS _ rfl rfl zeroML zeroM ?_; clear HS; intro W br HS) | (refine st_loadA HS 1 rfl _ _ rfl rfl rfl (by decide +kernel) (by kernel_rfl) ?_)))
  refine (hNe.out _ HS.out.below).mono ?_
  (rintro e Wq ⟨rfl, hb⟩; have HSq := hide (HS.out.on hb); clear HS hb; replace HS := HSq; clear HSq)
  clear hNe
  cases hn : (needsP M i).1
  case true =>
    go_wp2_with (first | ((with_reducible refine isList ?_); first | (refine st_storeA HS 0 rfl _ _ _ rfl rfl rfl _ rfl rfl (by kernel_rfl) rfl ?_; clear HS; intro W HS)))
    rw [show fetchP M i = (noMach, 1500) by unfold fetchP; rw [hn, Bool.not_true, Bool.and_false]; rfl]
    exact bodyPost_ret (ret_mach2 Tryz.results33 (HS.out.blk 0 rfl) rfl rfl rfl) rfl (mret_no HS.out.below)
  by_cases he : (needsP M i).2 = 0
  case neg =>
    have heb : ((needsP M i).2 != 0) = true := by simpa using he
    go_wp2_with (first | ((with_reducible refine isList ?_); first | (refine st_storeA HS 0 rfl _ _ _ rfl rfl rfl _ rfl rfl (by kernel_rfl) rfl ?_; clear HS; intro W HS)))
    rw [show fetchP M i = (noMach, 1500) by unfold fetchP; rw [decide_eq_false he]; rfl]
    exact bodyPost_ret (ret_mach2 Tryz.results33 (HS.out.blk 0 rfl) rfl rfl rfl) rfl (mret_no HS.out.below)
  have heb : ((needsP M i).2 != 0) = false := by simpa using he
  obtain ⟨hh, hr⟩ := needsP_here he
  obtain ⟨hmay, k, rfl, hk0⟩ := hereP_yes hh
  rw [Int.toNat_natCast] at hr
  have hk : k < A.s.n := by have := hX.out; omega
  have i2 : (k : Int) < (A.s.n : Int) := by omega
  have hok := hide (here_sess hmay hk0)
  obtain ⟨p, hI⟩ := hIns.out k hk hok.out 2 hr (by decide)
  have hcode := hI.code hr (by decide)
  obtain ⟨a, _, _, ⟨ea, ha⟩, ⟨eb0, hb03⟩, ⟨ec0, hc03⟩⟩ := hI.word (.inl hcode)
  obtain ⟨hl14, hsP, hsR, hsT⟩ := hSes.out k hk _ HS.out.below
  have hth := hI.there hok.out (hsP.len (by decide)) (.inl hcode)
  obtain ⟨g, ix, eg, eix, hg, hix⟩ := thereV_get hth
  have hixn : ix < (A.w g).n := by rw [(HM.out.below HS.out.below).lens g hg]; exact hix
  have hlt := hI.lt
  have hfew := hI.few
  have i1 : (p : Int) < ((A.q k).p.n : Int) := by omega
  obtain ⟨v, hv⟩ : ∃ v, v = M.wz g (ix * 3) := ⟨_, rfl⟩
  obtain ⟨n, hnn⟩ : ∃ n, n = M.wz g (ix * 3 + 1) := ⟨_, rfl⟩
  obtain ⟨l, hl⟩ : ∃ l, l = M.wz g (ix * 3 + 2) := ⟨_, rfl⟩
  have eT : (M.at k).tn = (A.q k).t.n := hsT.len (by decide)
  have eR : (M.at k).rn = (A.q k).r.n := hsR.len (by decide)
  have hlens := (HM.out.below HS.out.below).lens
  have eG : M.good (M.at k) = goodV A.w M.wz (A.q k).r.n (lz (M.at k).reads) (lz (M.at k).num 0) := by
    unfold PMach.good
    rw [eR]
    exact (good_congr fun g hg => (hlens g hg).symm).1
  have hamay : amay A.w M.wz = true := by rw [amay_congr hlens]; exact (machMay_parts hmay).1
  have hthw : thereV A.w (g : Int) (ix : Int) = true := by rw [thereV_congr hlens, ← eg, ← eix]; exact hth
  have hrok := hok.out.reads
  rw [eR] at hrok
  have hver : upToV n 65535 = true := by
    obtain ⟨_, hw⟩ := lvMay_get (lvTo_get (machMay_parts hmay).1 g hg)
    rw [hnn]
    exact (wmay_yes (wordsTo_get hw ix hix)).2.1
  have hWok : withOk (A.q k).r.n (lz (M.at k).reads) g ix n = true := with_room hrok (readMay_of (by rw [← eg, eb0]; exact upToV_of (by omega) (by omega)) (by rw [← eix, ec0]; exact upToV_of (by omega) (by omega)) hver)
  have hWe : withE (A.q k).r.n (lz (M.at k).reads) g ix n = 0 := by unfold withE; rw [hWok]; rfl
  obtain ⟨fv, hfv⟩ : ∃ fv, fv = findVal (A.q k).t.n (lz (M.at k).writes) g ix := ⟨_, rfl⟩
  have eS : Hid (fetchP M k = bif findIs (A.q k).t.n (lz (M.at k).writes) g ix then (takenP M k a fv p, 0)
      else bif decide (l = 0) && goodV A.w M.wz (A.q k).r.n (lz (M.at k).reads) (lz (M.at k).num 0) then ((takenP M k a v p).setS k (((takenP M k a v p).at k).setL 1 ((M.at k).withR g ix n)), 0)
      else againP M k 3) := by
    show fetchP M k = _
    unfold fetchP
    rw [decide_eq_true he, hn, Int.toNat_natCast, hI.ins 1, hI.ins 2, hI.ins 3, ea, eg, eix, Int.toNat_natCast, Int.toNat_natCast, Int.toNat_natCast, eT, eR, eG, ← hv, ← hnn, ← hl, ← hfv, show (M.at k).pc = p from hI.pc, hWe, got_taken hk0, got_taken (by rw [PMach.len_setS]; exact hk0), taken_reads hk0]
    rfl
  have hp := hide hI.pc
  have hGet := hide fun (W : World) (hb : Below w.heap.size w W) => get_c A.w M.wz g ix W (HM.out.below hb).fit (HM.out.below hb).arn
  obtain ⟨g1, g2⟩ := getW_yes hamay hthw
  rw [g1, g2, Int.toNat_natCast, Int.toNat_natCast, ← hv, ← hnn, ← hl] at hGet
  have hGood := hide fun (W : World) (hb : Below w.heap.size w W) => good_rc A.w M.wz (A.q k).r.a (A.q k).r.n (A.q k).r.c (lz (M.at k).reads) (lz (M.at k).num 0) W (HM.out.below hb).fit (HM.out.below hb).arn (by have := hsR.2.1.1; omega) hsR.2.1.2.1 ((hSes.out k hk W hb).2.2.1.2.2)
  have hFind := hide fun (W : World) (hb : Below w.heap.size w W) => find_wc (A.q k).t.a (A.q k).t.n (A.q k).t.c (lz (M.at k).writes) g ix W (by have := hsT.2.1.1; omega) hsT.2.1.2.1 hsT.2.1.2.2 ((hSes.out k hk W hb).2.2.2.2.2)
  have hWith := hide fun (W : World) (hb : Below w.heap.size w W) => with_rc (A.q k).r.a (A.q k).r.n (A.q k).r.c (lz (M.at k).reads) g ix n W (by have := hsR.2.1.1; omega) hsR.2.1.2.1 hsR.2.1.2.2 ((hSes.out k hk W hb).2.2.1.2.2)
  have hTk := hide fun (v : Int) (W : World) (hb : Below w.heap.size w W) => taken_any A M k a p v W (HM.out.below hb) hh hk hI.pc hlt (by omega) ea ha
  rw [← hfv] at hFind
  unfold wordA at hGet
  replace eR := hide eR
  replace hWe := hide hWe
  replace ea := hide ea
  replace eg := hide eg
  replace eix := hide eix
  clear hh hr he hI hIns hmay hcode hl14 hsP hsR hsT hix eT eG hv hnn hl hfv g1 g2 hlens hamay hthw hth hver hWok eb0 hb03 ec0 hc03 hn hrok
  go_upto_region 4 with fail
  obtain ⟨bs, off, hbs, hbl, hR⟩ := hrng.out k hk _ HS.out.below
  replace hR := hide hR
  go_upto_region 5 with (first | ((with_reducible refine isList ?_); first | (refine st_load1 HS 1 rfl _ _ rfl _ rfl rfl (by decide +kernel) rfl ?_) | (refine wpList_load_at _ _ rfl rfl bs (off + k * 17) rfl (sessOf (A.q k) (M.at k)) (by decide +kernel) (by kernel_rfl) hR.out ?_) | (refine st_alloc HS _ rfl rfl zeroSL zeroS ?_; clear HS; intro W bx HS) | (refine st_storeA HS 0 rfl _ _ _ rfl rfl rfl _ rfl rfl (by kernel_rfl) rfl ?_; clear HS; intro W HS)))
  replace HS : Hid (St w W [blkI bx (sessL (lz (M.at k).num) (.slice (A.q k).p.a (A.q k).p.n (A.q k).p.c) (.slice (A.q k).r.a (A.q k).r.n (A.q k).r.c) (.slice (A.q k).t.a (A.q k).t.n (A.q k).t.c)), blkI br zeroML, blkI bm (machL A M)]) := HS
  clear hR hbs
  obtain ⟨bp, op, hbp, hpl, hR⟩ := (hSes.out k hk _ HS.out.below).2.1.four hlt
  rw [ea.out, eg.out, eix.out] at hR
  replace hR := hide hR
  have hp5 := hp.out
  go_upto_region 6 with (first | ((with_reducible refine isList ?_); first | (refine st_load1 HS 0 rfl _ _ rfl _ rfl rfl (by decide +kernel) rfl ?_) | (refine wpList_load_at _ _ rfl rfl bp (op + p * 4) rfl [.int .i64 (lz (M.at k).prog (p * 4)), .int .i64 a, .int .i64 g, .int .i64 ix] (by decide +kernel) (by kernel_rfl) hR.out ?_) | (refine st_alloc HS _ rfl rfl zeroIL zeroI ?_; clear HS; intro W bi HS) | (refine st_storeA HS 0 rfl _ _ _ rfl rfl rfl _ rfl rfl (by kernel_rfl) rfl ?_; clear HS; intro W HS)))
  replace HS : Hid (St w W [blkI bi [.int .i64 (lz (M.at k).prog (p * 4)), .int .i64 a, .int .i64 g, .int .i64 ix], blkI bx (sessL (lz (M.at k).num) (.slice (A.q k).p.a (A.q k).p.n (A.q k).p.c) (.slice (A.q k).r.a (A.q k).r.n (A.q k).r.c) (.slice (A.q k).t.a (A.q k).t.n (A.q k).t.c)), blkI br zeroML, blkI bm (machL A M)]) := HS
  clear hR hbp hp5
  go_wp2_with (first | ((with_reducible refine isList ?_); first | (refine st_load1 HS 0 rfl _ _ rfl _ rfl rfl (by decide +kernel) rfl ?_) | (refine st_load1 HS 1 rfl _ _ rfl _ rfl rfl (by decide +kernel) rfl ?_)))
  refine (hFind.out _ HS.out.below).mono ?_
  (rintro e Wq ⟨rfl, hb⟩; have HSq := hide (HS.out.on hb); clear HS hb; replace HS := HSq; clear HSq)
  clear hFind
  cases hf : findIs (A.q k).t.n (lz (M.at k).writes) g ix
  case true =>
    rw [hf] at eS
    replace eS : Hid (fetchP M k = (takenP M k a fv p, 0)) := eS
    clear hf hGet hGood hWith hAgain
    go_wp2_with (first | ((with_reducible refine isList ?_); first | (refine st_loadA HS 3 rfl _ _ rfl rfl rfl (by decide +kernel) (by kernel_rfl) ?_)))
    refine (hTk.out fv _ HS.out.below).mono ?_
    (rintro e Wq ⟨A2, rfl, hO, hb⟩; have HSq := hide (HS.out.push hb (machI (fun k => _) A2 _) (machI_loc _ _ _) hO fun k hk => hk); generalize (fun k => _) = D2 at HSq; clear HS hb hO; replace HS := HSq; clear HSq)
    clear hTk
    go_wp2_with (first | ((with_reducible refine isList ?_); first | (refine st_storeA HS 3 rfl _ _ _ rfl rfl rfl _ rfl rfl (by kernel_rfl) rfl ?_; clear HS; intro W HS)))
    rw [eS.out]
    exact bodyPost_ret (ret_mach2 Tryz.results33 (HS.out.blk 3 rfl) rfl rfl rfl) rfl (mret_of (R := (takenP M k a fv p, 0)) HS.out 0 (D := D2) (A := A2) rfl)
  rw [hf] at eS
  replace eS : Hid (fetchP M k = bif decide (l = 0) && goodV A.w M.wz (A.q k).r.n (lz (M.at k).reads) (lz (M.at k).num 0) then ((takenP M k a v p).setS k (((takenP M k a v p).at k).setL 1 ((M.at k).withR g ix n)), 0) else againP M k 3) := eS
  clear hf
  go_wp2_with (first | ((with_reducible refine isList ?_); first | (refine st_load1 HS 0 rfl _ _ rfl _ rfl rfl (by decide +kernel) rfl ?_) | (refine st_loadR HS 3 rfl _ _ rfl _ rfl rfl (by decide +kernel) (arenaL A.w) [.int .i64 (lz M.clocks 0), .int .i64 (lz M.clocks 1), .int .i64 (lz M.clocks 2), .int .i64 (lz M.clocks 3), .int .i64 M.ceil, .slice A.s.a A.s.n A.s.c, .slice A.e.a A.e.n A.e.c] (by kernel_rfl) rfl ?_)))
  refine (hGet.out _ HS.out.below).mono ?_
  (rintro e Wq ⟨rfl, hb⟩; have HSq := hide (HS.out.on hb); clear HS hb; replace HS := HSq; clear HSq)
  clear hGet
  go_upto_region 10 with (first | ((with_reducible refine isList ?_); first | (refine st_alloc HS _ rfl rfl zeroWL zeroW ?_; clear HS; intro W bw HS) | (refine st_storeA HS 0 rfl _ _ _ rfl rfl rfl _ rfl rfl (by kernel_rfl) rfl ?_; clear HS; intro W HS)))
  replace HS : Hid (St w W [blkI bw [.int .i64 v, .int .i64 n, .int .i64 l], blkI bi [.int .i64 (lz (M.at k).prog (p * 4)), .int .i64 a, .int .i64 g, .int .i64 ix], blkI bx (sessL (lz (M.at k).num) (.slice (A.q k).p.a (A.q k).p.n (A.q k).p.c) (.slice (A.q k).r.a (A.q k).r.n (A.q k).r.c) (.slice (A.q k).t.a (A.q k).t.n (A.q k).t.c)), blkI br zeroML, blkI bm (machL A M)]) := HS
  go_wp2_with (first | ((with_reducible refine isList ?_); first | (refine st_load1 HS 2 rfl _ _ rfl _ rfl rfl (by decide +kernel) rfl ?_) | (refine st_loadR HS 4 rfl _ _ rfl _ rfl rfl (by decide +kernel) (arenaL A.w) [.int .i64 (lz M.clocks 0), .int .i64 (lz M.clocks 1), .int .i64 (lz M.clocks 2), .int .i64 (lz M.clocks 3), .int .i64 M.ceil, .slice A.s.a A.s.n A.s.c, .slice A.e.a A.e.n A.e.c] (by kernel_rfl) rfl ?_)))
  refine (hGood.out _ HS.out.below).mono ?_
  (rintro e Wq ⟨rfl, hb⟩; have HSq := hide (HS.out.on hb); clear HS hb; replace HS := HSq; clear HSq)
  clear hGood
  have c2 : Wq.cell? ⟨bw, 2, none⟩ = some (.int .i64 l) := (HS.out.blk 0 rfl).cell 2 _ rfl
  cases hgd : decide (l = 0) && goodV A.w M.wz (A.q k).r.n (lz (M.at k).reads) (lz (M.at k).num 0)
  case false =>
    rw [hgd] at eS
    replace eS : Hid (fetchP M k = againP M k 3) := eS
    have hcs : (l != 0) = true ∨ ((l != 0) = false ∧ goodV A.w M.wz (A.q k).r.n (lz (M.at k).reads) (lz (M.at k).num 0) = false) := by
      by_cases hl0 : l = 0
      · rw [decide_eq_true hl0, Bool.true_and] at hgd
        exact .inr ⟨by simpa using hl0, hgd⟩
      · exact .inl (by simpa using hl0)
    clear hgd hWith hTk
    rcases hcs with hlb | ⟨hlb, hg0⟩
    case' inl => go_upto_region 12 with fail
    case' inr =>
      rw [hg0]
      go_upto_region 12 with fail
    all_goals
      clear c2
      go_wp2_with (first | ((with_reducible refine isList ?_); first | (refine st_loadA HS 4 rfl _ _ rfl rfl rfl (by decide +kernel) (by kernel_rfl) ?_)))
      refine (hAgain.out _ HS.out.below).mono ?_
      (rintro e W2 ⟨A2, rfl, hO, hb⟩; have HS2 := hide (HS.out.push hb (machI (fun k => _) A2 _) (machI_loc _ _ _) hO fun k hk => hk); generalize (fun k => _) = D2 at HS2; clear hO HS hb; replace HS := HS2; clear HS2; go_wp2_with (first | ((with_reducible refine isList ?_); first | (refine st_storeA HS 4 rfl _ _ _ rfl rfl rfl _ rfl rfl (by kernel_rfl) rfl ?_; clear HS; intro W HS))); rw [eS.out]; exact bodyPost_ret (ret_mach2 Tryz.results33 (HS.out.blk 4 rfl) rfl rfl rfl) rfl (mret_of (R := againP M k 3) HS.out 0 (D := D2) (A := A2) rfl))
  rw [hgd] at eS
  replace eS : Hid (fetchP M k = ((takenP M k a v p).setS k (((takenP M k a v p).at k).setL 1 ((M.at k).withR g ix n)), 0)) := eS
  simp only [Bool.and_eq_true, decide_eq_true_eq] at hgd
  obtain ⟨hl0, hg1⟩ := hgd
  have hlb : (l != 0) = false := by simpa using hl0
  rw [hg1]
  clear hAgain hg1 hl0
  go_upto_region 13 with fail
  clear c2
  go_wp2_with (first | ((with_reducible refine isList ?_); first | (refine st_load1 HS 0 rfl _ _ rfl _ rfl rfl (by decide +kernel) rfl ?_) | (refine st_loadA HS 4 rfl _ _ rfl rfl rfl (by decide +kernel) (by kernel_rfl) ?_)))
  refine (hTk.out v _ HS.out.below).mono ?_
  have lT := taken_len M k a v p
  generalize takenP M k a v p = T at *
  (rintro e Wq ⟨A1, rfl, hO, hb⟩; have HSq := hide (HS.out.push hb (machI (fun k => _) A1 _) (machI_loc _ _ _) hO fun k hk => hk); generalize (fun k => _) = D1 at HSq; clear HS hb hO; replace HS := HSq; clear HSq)
  clear hTk
  have hk1 : k < A1.s.n := by
    have := (MachOwn.is (show MachOwn D1 _ A1 T from HS.out.get 0 rfl)).sess.1
    omega
  have i4 : (k : Int) < (A1.s.n : Int) := by omega
  obtain ⟨bs1, hbs1, _⟩ := MachOwn.sblk (show MachOwn D1 _ A1 T from HS.out.get 0 rfl) hk1
  replace hbs1 := hide hbs1
  go_upto_region 14 with (first | ((with_reducible refine isList ?_); first | (refine st_alloc HS _ rfl rfl zeroML zeroM ?_; clear HS; intro W bn HS) | (refine st_storeA HS 0 rfl _ _ _ rfl rfl rfl _ rfl rfl (by kernel_rfl) rfl ?_; clear HS; intro W HS)))
  replace HS : Hid (St w W [blkI bn (machL A1 T), machI D1 A1 T, blkI bw [.int .i64 v, .int .i64 n, .int .i64 l], blkI bi [.int .i64 (lz (M.at k).prog (p * 4)), .int .i64 a, .int .i64 g, .int .i64 ix], blkI bx (sessL (lz (M.at k).num) (.slice (A.q k).p.a (A.q k).p.n (A.q k).p.c) (.slice (A.q k).r.a (A.q k).r.n (A.q k).r.c) (.slice (A.q k).t.a (A.q k).t.n (A.q k).t.c)), blkI br zeroML, blkI bm (machL A M)]) := HS
  replace hbs1 := hbs1.out
  have hcl : Hid (∀ W', Blk W' bn (machL A1 T) → Blk W' bx (sessL (lz (M.at k).num) (.slice (A.q k).p.a (A.q k).p.n (A.q k).p.c) (.slice (A.q k).r.a (A.q k).r.n (A.q k).r.c) (.slice (A.q k).t.a (A.q k).t.n (A.q k).t.c)) → Blk W' bi [.int .i64 (lz (M.at k).prog (p * 4)), .int .i64 a, .int .i64 g, .int .i64 ix] → Blk W' bw [.int .i64 v, .int .i64 n, .int .i64 l] → (W'.cell? ⟨bn, 9, none⟩ = some (.slice (some ⟨bs1, 0, none⟩) A1.s.n A1.s.c) ∧ W'.cell? ⟨bx, 10, none⟩ = some (.slice (A.q k).r.a (A.q k).r.n (A.q k).r.c) ∧ W'.cell? ⟨bi, 2, none⟩ = some (.int .i64 g) ∧ W'.cell? ⟨bi, 3, none⟩ = some (.int .i64 ix) ∧ W'.cell? ⟨bw, 1, none⟩ = some (.int .i64 n))) := fun W' h0 h1 h2 h3 => ⟨by rw [← hbs1]; exact h0.cell 9 _ rfl, h1.cell 10 _ rfl, h2.cell 2 _ rfl, h2.cell 3 _ rfl, h3.cell 1 _ rfl⟩
  (try simp only [Act.put, List.setIfInBounds_toArray, List.set_cons_zero, List.set_cons_succ])
  refine wp_region_mask [true, true, true, true, true, true, true, true, true, true, true, true, false, false, false, false, false, false, false] [false, false, false, false, false, false, false, false, false, false, false, false, true, true, true, true, true, true, true] [0, 3, 3, 3, 3, 3, 1] (fun W' => W'.cell? ⟨bn, 9, none⟩ = some (.slice (some ⟨bs1, 0, none⟩) A1.s.n A1.s.c) ∧ W'.cell? ⟨bx, 10, none⟩ = some (.slice (A.q k).r.a (A.q k).r.n (A.q k).r.c) ∧ W'.cell? ⟨bi, 2, none⟩ = some (.int .i64 g) ∧ W'.cell? ⟨bi, 3, none⟩ = some (.int .i64 ix) ∧ W'.cell? ⟨bw, 1, none⟩ = some (.int .i64 n)) (by kernel_rfl) (by kernel_rfl) (by kernel_rfl) (by decide +kernel) (hcl.out _ (HS.out.drew.blk 0 rfl) (HS.out.drew.blk 4 rfl) (HS.out.drew.blk 3 rfl) (HS.out.drew.blk 2 rfl)) ?_
  intro kne
  simp only [pickAt]
  repeat (first | ((first | (refine wpQuiet_ld _ _ rfl ⟨bn, 9, none⟩ rfl rfl (by decide +kernel) (fun w hC => hC.1) ?_) | (refine wpQuiet_ld _ _ rfl ⟨bx, 10, none⟩ rfl rfl (by decide +kernel) (fun w hC => hC.2.1) ?_) | (refine wpQuiet_ld _ _ rfl ⟨bi, 2, none⟩ rfl rfl (by decide +kernel) (fun w hC => hC.2.2.1) ?_) | (refine wpQuiet_ld _ _ rfl ⟨bi, 3, none⟩ rfl rfl (by decide +kernel) (fun w hC => hC.2.2.2.1) ?_) | (refine wpQuiet_ld _ _ rfl ⟨bw, 1, none⟩ rfl rfl (by decide +kernel) (fun w hC => hC.2.2.2.2) ?_)); simp only [Act.put, List.setIfInBounds_toArray, List.set_cons_zero, List.set_cons_succ]) | go_big_quiet_step (fail))
  refine wpQuiet_nil ?_
  clear kne
  replace HS := hide HS.out.drew
  generalize World.drew _ = Wd at *
  refine wpRest_cons rfl rfl fun K hK => ?_
  go_big_op
  refine (hWith.out _ HS.out.below).mono ?_
  rintro e W7 ⟨x, rfl, hx0, hxc, hxn, _, hxo, hb⟩
  have hx16 := withN_le (A.q k).r.n (lz (M.at k).reads) g ix n
  have hL := lis_of (D := fun j => Wd.heap.size ≤ j ∧ j < W7.heap.size) (k := 3) ⟨by omega, hxc, hx0⟩ fun h0 => by obtain ⟨b, e1, e2, e3, e4⟩ := hxo h0; exact ⟨b, e1, ⟨e2, e3⟩, e4⟩
  rw [show (List.range (x.n * 3)).map (putR (lz (M.at k).reads) (A.q k).r.n g ix n) = (M.at k).withR g ix n by rw [hxn]; unfold PSess.withR; rw [eR.out]] at hL
  have HS1 := hide (HS.out.push hb (lisI (fun j => _) 3 x _) (lisI_loc _ _ _ _) hL fun k hk => hk)
  generalize (fun j => _) = D3 at HS1
  clear hL hxo hxn hx0 hxc hb HS hx16
  replace HS := HS1
  clear HS1
  refine hK _ _ (fun _ => InC.mk (hcl.out _ (HS.out.blk 1 rfl) (HS.out.blk 5 rfl) (HS.out.blk 4 rfl) (HS.out.blk 3 rfl))) ?_
  clear hK K hcl
  (try simp only [Act.put, List.setIfInBounds_toArray, List.set_cons_zero, List.set_cons_succ])
  rw [hWe.out]
  refine wpRest_move _ rfl rfl rfl ?_
  (try simp only [Act.put, List.setIfInBounds_toArray, List.set_cons_zero, List.set_cons_succ])
  refine wpRest_extract _ 0 rfl rfl rfl rfl ?_
  (try simp only [Act.put, List.setIfInBounds_toArray, List.set_cons_zero, List.set_cons_succ])
  refine wpRest_extract _ 1 rfl rfl rfl rfl ?_
  (try simp only [Act.put, List.setIfInBounds_toArray, List.set_cons_zero, List.set_cons_succ])
  refine wpRest_of (v := .pointer (some ⟨bs1, k * 17, none⟩)) rfl (ix_hv (.tmp 94) (.tmp 95) rfl bs1 A1.s.n A1.s.c k rfl rfl hk1) ?_
  (try simp only [Act.put, List.setIfInBounds_toArray, List.set_cons_zero, List.set_cons_succ])
  refine wpRest_of (v := .pointer (some ⟨bs1, k * 17 + 10, none⟩)) rfl (fun w => rfl) ?_
  (try simp only [Act.put, List.setIfInBounds_toArray, List.set_cons_zero, List.set_cons_succ])
  refine wpRest_cons rfl rfl fun K hK => ?_
  refine stw_storeL HS 2 0 rfl 1 (by decide) rfl (by decide) hk1 hbs1 _ _ _ rfl _ rfl rfl rfl (by decide +kernel) ?_
  clear HS
  intro W8 HS
  refine hK _ _ (fun h => by cases h) (wpRest_nil ?_)
  clear hK K
  (try simp only [Act.put, List.setIfInBounds_toArray, List.set_cons_zero, List.set_cons_succ])
  refine NoPanic.normal ?_
  replace HS := hide HS.out.tail
  replace HS : Hid (St w W8 [blkI bn (machL (A1.setQ k ((A1.q k).setL 1 x)) (T.setS k ((T.at k).setL 1 ((M.at k).withR g ix n)))), machI (fun k => D1 k ∨ D3 k) (A1.setQ k ((A1.q k).setL 1 x)) (T.setS k ((T.at k).setL 1 ((M.at k).withR g ix n))), blkI bw [.int .i64 v, .int .i64 n, .int .i64 l], blkI bi [.int .i64 (lz (M.at k).prog (p * 4)), .int .i64 a, .int .i64 g, .int .i64 ix], blkI bx (sessL (lz (M.at k).num) (.slice (A.q k).p.a (A.q k).p.n (A.q k).p.c) (.slice (A.q k).r.a (A.q k).r.n (A.q k).r.c) (.slice (A.q k).t.a (A.q k).t.n (A.q k).t.c)), blkI br zeroML, blkI bm (machL A M)]) := HS
  generalize T.setS k ((T.at k).setL 1 ((M.at k).withR g ix n)) = N at HS eS
  generalize A1.setQ k ((A1.q k).setL 1 x) = A2 at HS
  generalize (fun k => D1 k ∨ D3 k) = D2 at HS
  go_wp2_with (first | ((with_reducible refine isList ?_); first | (refine st_loadA HS 0 rfl _ _ rfl rfl rfl (by decide +kernel) (by kernel_rfl) ?_) | (refine st_storeA HS 5 rfl _ _ _ rfl rfl rfl _ rfl rfl (by kernel_rfl) rfl ?_; clear HS; intro W HS)))
  rw [eS.out]
  exact bodyPost_ret (ret_mach2 Tryz.results33 (HS.out.blk 5 rfl) rfl rfl rfl) rfl (mret_of (R := (N, 0)) HS.out 1 (D := D2) (A := A2) rfl)
end Go.Proofs.YtaaenolbfhhnfaaGreat
