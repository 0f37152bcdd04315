/-
  Several small texts in one: StoreMay, TellTurn, StoreProg.
-/
import Derived.Test.YtlnenmfippedpaaGreatZhFetchRef
import Derived.Test.YtlnenmfippedpaaGreatZhStoreRef
import Derived.Test.YtlnenmfippedpaaGreatZlba
import Derived.Test.YtlnenmfippedpaaGreatZlae
import Derived.Test.YtlnenmfippedpaaGreatZlaf
import Derived.Test.YtlnenmfippedpaaGreatZlah
namespace Go.Proofs.YtlnenmfippedpaaGreat
open Go.RowKit
set_option linter.unusedSimpArgs false
set_option linter.unusedVariables false
theorem withWN_yes {n : Nat} {z : Nat → Int} {l i v : Int} (h : withWOk n z l i v = true) : withWN n z l i v = posW n z l i + 1 + (n - toW n z l i) := by
  unfold withWN
  rw [h]
  rfl
theorem withWN_ge {n : Nat} {z : Nat → Int} {l i v : Int} (h : withWOk n z l i v = true) : n ≤ withWN n z l i v := by
  rw [withWN_yes h]
  have h1 := posW_le n z l i
  unfold toW
  cases hasW n z l i <;> simp only [cond_true, cond_false] <;> omega
theorem with_there {s : Nat → Sl} {n : Nat} {z : Nat → Int} {l i v : Int} (h : withWOk n z l i v = true) (ht : allTo (thereP s z) n = true) (hw : thereV s l i = true) : allTo (thereP s (withWZ n z l i v)) (withWN n z l i v) = true := by
  have H := writesMay_get (withWOk_get h).1
  have hp := posW_le n z l i
  have htw := toW_le (l := l) (i := i) H
  rw [withWN_yes h]
  unfold withWZ
  generalize posW n z l i = p, toW n z l i = t at *
  refine allTo_mk fun k hk => ?_
  obtain ⟨e1, e2⟩ := insW_one (p := p) (t := t) (z := z) (l := l) (i := i) (v := v) k
  unfold thereP
  by_cases h1 : k < p
  · rw [show k * 3 = k * 3 + 0 from rfl, e1 h1 0 (by omega), e1 h1 1 (by omega)]
    exact allTo_get ht k (by omega)
  · by_cases h2 : p < k
    · rw [show k * 3 = k * 3 + 0 from rfl, e2 h2 0 (by omega), e2 h2 1 (by omega)]
      exact allTo_get ht (t + (k - (p + 1))) (by omega)
    · obtain rfl : k = p := by omega
      rw [(insW_at _ _ _ _ _ _).1, (insW_at _ _ _ _ _ _).2.1]
      exact hw
theorem withW_len (x : PSess) (l i v : Int) : (x.withW l i v).length = withWN x.tn (lz x.writes) l i v * 3 := by
  unfold PSess.withW
  rw [List.length_map, List.length_range]
theorem sess_writes {s : Nat → Sl} {x : PSess} (h : SessOk s x) {W : List Int} (hW : writesMay (W.length / 3) (lz W) = true) (hT : allTo (thereP s (lz W)) (W.length / 3) = true) (hn : x.tn ≤ W.length / 3) : sessMayP s (x.setL 2 W) = true := by
  have hpn : (x.setL 2 W).pn = x.pn := rfl
  have hrn : (x.setL 2 W).rn = x.rn := rfl
  have htn : (x.setL 2 W).tn = W.length / 3 := rfl
  have hp : (x.setL 2 W).prog = x.prog := rfl
  have hrd : (x.setL 2 W).reads = x.reads := rfl
  have hwr : (x.setL 2 W).writes = W := rfl
  have hnm : (x.setL 2 W).num = x.num := rfl
  have ha := h.at_
  unfold sessMayP sessMay wordsThere
  rw [hpn, hrn, htn, hp, hrd, hwr, hnm, h.start, h.prog, h.readsT, hT, upToV_of h.step.1 h.step.2, upToV_of h.pc.1 h.pc.2, h.regs, h.reads, hW, upToV_of ha.1 (by omega), upToV_of h.stamp.1 h.stamp.2, upToV_of h.tries.1 h.tries.2, upToV_of h.result.1 h.result.2, upToV_of h.told.1 h.told.2]
  rfl
theorem sess_pc {s : Nat → Sl} {x : PSess} (h : SessOk s x) (h14 : x.num.length = 14) {p : Int} (hp0 : 0 ≤ p) (hp1 : p ≤ x.pn) : sessMayP s (x.setN 4 p) = true := by
  have e : ∀ c, c ≠ 4 → lz (x.setN 4 p).num c = lz x.num c := fun c h1 => by rw [setN_lz (by omega), if_neg h1]
  have e4 : lz (x.setN 4 p).num 4 = p := by rw [setN_lz (by omega), if_pos rfl]
  have hr : allUp (regsI (lz (x.setN 4 p).num)) 255 4 = true := allUp_mk fun c hc => by
    unfold regsI
    rw [e (5 + c) (by omega)]
    exact upToV_of (h.reg hc).1 (h.reg hc).2
  have hpn : (x.setN 4 p).pn = x.pn := rfl
  have hrn : (x.setN 4 p).rn = x.rn := rfl
  have htn : (x.setN 4 p).tn = x.tn := rfl
  have hp : (x.setN 4 p).prog = x.prog := rfl
  have hrd : (x.setN 4 p).reads = x.reads := rfl
  have hwr : (x.setN 4 p).writes = x.writes := rfl
  unfold sessMayP sessMay wordsThere
  rw [hpn, hrn, htn, hp, hrd, hwr, e 0 (by decide), e 1 (by decide), e 2 (by decide), h.start, h.prog, h.writesT, h.readsT, e 3 (by decide), upToV_of h.step.1 h.step.2, e4, upToV_of hp0 hp1, hr, h.reads, h.writes, e 9 (by decide), upToV_of h.at_.1 h.at_.2, e 10 (by decide), upToV_of h.stamp.1 h.stamp.2, e 11 (by decide), upToV_of h.tries.1 h.tries.2, e 12 (by decide), upToV_of h.result.1 h.result.2, e 13 (by decide), upToV_of h.told.1 h.told.2]
  rfl
theorem storeP_ok {M : PMach} {k : Nat} (hh : hereP M k = true) (hr : runP (M.at k) = 3) :
    storeP M k = (tellP ((M.setS k ((M.at k).setL 2 ((M.at k).withW ((M.at k).ins 2) ((M.at k).ins 3) ((M.at k).reg ((M.at k).ins 1).toNat)))).doN k 4 ((M.at k).pc + 1)) k 1 ((M.at k).reg ((M.at k).ins 1).toNat), 0) := by
  unfold storeP
  rw [hh, Int.toNat_natCast, decide_eq_true hr]
  rfl
/-- What a machine is behind a store. -/
structure Stored (M N : PMach) (k : Nat) (l i v : Int) : Prop where
  words : N.words = M.words
  clocks : N.clocks = M.clocks
  ceil : N.ceil = M.ceil
  len : N.sess.length = M.sess.length
  other : ∀ j, j ≠ k → N.at j = M.at j
  num : ∀ c, c ≠ 4 → lz (N.at k).num c = lz (M.at k).num c
  pc : lz (N.at k).num 4 = lz (M.at k).num 4 + 1
  n14 : (N.at k).num.length = 14
  prog : (N.at k).prog = (M.at k).prog
  reads : (N.at k).reads = (M.at k).reads
  writes : (N.at k).writes = (M.at k).withW l i v
  ok : withWOk (M.at k).tn (lz (M.at k).writes) l i v = true
  kept : InW (N.at k).tn (lz (N.at k).writes) l i v
  here : hereP N k = true
theorem stored_of {A : MacM} {M N : PMach} {w : World} (h : MachIs w A M) {i : Int} (e : storeP M i = (N, 0)) : ∃ k : Nat, i = k ∧ k < M.sess.length ∧ hereP M k = true ∧ runP (M.at k) = 3 ∧ Stored M N k ((M.at k).ins 2) ((M.at k).ins 3) ((M.at k).reg ((M.at k).ins 1).toNat) := by
  cases hh : hereP M i
  case false =>
    unfold storeP at e
    rw [hh] at e
    cases e
  obtain ⟨hmay, k, rfl, hk0⟩ := hereP_yes hh
  by_cases hr : runP (M.at k) = 3
  case neg =>
    unfold storeP at e
    rw [hh, Int.toNat_natCast, decide_eq_false hr] at e
    cases e
  refine ⟨k, rfl, hk0, hh, hr, ?_⟩
  rw [storeP_ok hh hr] at e
  have hk : k < A.s.n := by have := h.sess.1; omega
  have h14 : (M.at k).num.length = 14 := (h.sess.2.2.2 k hk).1
  have hT : M.trace.length % 4 = 0 := by have := h.trace.1; omega
  have hok := here_sess hmay hk0
  obtain ⟨p, hI⟩ := ins_at h hk hok hr (by decide)
  have hcode := hI.code hr (by decide)
  obtain ⟨x, y, u, ⟨hb1, hb1'⟩, ⟨hb2, hb3⟩, ⟨hb4, hb5⟩⟩ := hI.word (.inr hcode)
  have hpn : (M.at k).pn = (A.q k).p.n := by
    have h1 : (M.at k).prog.length = (A.q k).p.n * 4 := (h.sess.2.2.2 k hk).2.1.1
    unfold PSess.pn; rw [h1, Nat.mul_div_cancel _ (by decide)]
  have hth : thereV M.lens ((M.at k).ins 2) ((M.at k).ins 3) = true := by rw [hI.ins 2, hI.ins 3]; exact hI.there hok hpn (.inr hcode)
  have ha : ((M.at k).ins 1).toNat < 4 := by rw [hI.ins 1, hb1]; omega
  have hp0 : 0 ≤ (M.at k).pc := hok.pc.1
  have hp1 : (M.at k).pc + 1 ≤ (M.at k).pn := by
    have := hI.lt
    have e4 : (M.at k).pc = p := hI.pc
    omega
  have hv : 0 ≤ (M.at k).reg ((M.at k).ins 1).toNat ∧ (M.at k).reg ((M.at k).ins 1).toNat ≤ 255 := hok.reg ha
  have hwo := hok.withW (l := (M.at k).ins 2) (i := (M.at k).ins 3) (by rw [hI.ins 2, hb2]; omega) (by rw [hI.ins 3, hb4]; omega) hv
  generalize (M.at k).reg ((M.at k).ins 1).toNat = v at *
  generalize (M.at k).ins 2 = l, (M.at k).ins 3 = j at *
  have hWt : ((M.at k).withW l j v).length / 3 = withWN (M.at k).tn (lz (M.at k).writes) l j v := by rw [withW_len, Nat.mul_div_cancel _ (by decide)]
  have hz : ∀ c, c < withWN (M.at k).tn (lz (M.at k).writes) l j v * 3 → lz ((M.at k).withW l j v) c = withWZ (M.at k).tn (lz (M.at k).writes) l j v c := fun c hc => by
    unfold PSess.withW
    exact lz_map hc
  have hwy := withWN_yes hwo
  have hge := withWN_ge hwo
  have hWm : writesMay (((M.at k).withW l j v).length / 3) (lz ((M.at k).withW l j v)) = true := by
    rw [hWt, writesMay_congr hz, hwy]
    exact (Wr.ins (writesMay_get hok.writes) (withWOk_get hwo).2).may
  have hWth : allTo (thereP M.lens (lz ((M.at k).withW l j v))) (((M.at k).withW l j v).length / 3) = true := by
    rw [hWt, allTo_congr (q := thereP M.lens (withWZ (M.at k).tn (lz (M.at k).writes) l j v)) fun c hc => by unfold thereP; rw [hz _ (by omega), hz _ (by omega)]]
    exact with_there hwo hok.writesT hth
  have hin : InW (((M.at k).withW l j v).length / 3) (lz ((M.at k).withW l j v)) l j v := by
    obtain ⟨q, hq, q0, q1, q2⟩ := (ins_in (writesMay_get hok.writes) (withWOk_get hwo).2 l j v).2 (.inl ⟨rfl, rfl, rfl⟩)
    rw [← hwy] at hq
    exact ⟨q, by rw [hWt]; exact hq, by rw [hz _ (by omega)]; exact q0, by rw [hz _ (by omega)]; exact q1, by rw [hz _ (by omega)]; exact q2⟩
  rw [← hWt] at hge
  obtain ⟨W, eW⟩ : ∃ W, (M.at k).withW l j v = W := ⟨_, rfl⟩
  rw [eW] at hWt hz hWm hWth hin hge e
  have eM : (M.setS k ((M.at k).setL 2 W)).at k = (M.at k).setL 2 W := PMach.at_setS hk0
  have l1 : k < (M.setS k ((M.at k).setL 2 W)).sess.length := by rw [PMach.len_setS]; exact hk0
  have hs1 : sessMayP M.lens ((M.at k).setL 2 W) = true := sess_writes hok hWm hWth hge
  have eN : ((M.setS k ((M.at k).setL 2 W)).doN k 4 ((M.at k).pc + 1)).at k = ((M.at k).setL 2 W).setN 4 ((M.at k).pc + 1) := by rw [at_doN l1, eM]
  have lN : ((M.setS k ((M.at k).setL 2 W)).doN k 4 ((M.at k).pc + 1)).sess.length = M.sess.length := by unfold PMach.doN; rw [PMach.len_setS, PMach.len_setS]
  have oN : ∀ j, j ≠ k → ((M.setS k ((M.at k).setL 2 W)).doN k 4 ((M.at k).pc + 1)).at j = M.at j := fun j hj => by unfold PMach.doN; rw [PMach.at_ne hj, PMach.at_ne hj]
  have hm2 : machMay ((M.setS k ((M.at k).setL 2 W)).doN k 4 ((M.at k).pc + 1)) = true :=
    machMay_turn hmay hk0 (fun g hg => rfl) (machMay_parts hmay).1 rfl rfl rfl lN oN (by rw [eN, setN_lz (by show 4 < (M.at k).num.length; omega), if_neg (by decide)]; rfl) (by rw [eN]; exact sess_pc (sessOk_of hs1) h14 (by omega) hp1)
  have hm3 := tell_may hm2 (k := k) (by rw [lN]; exact hk0) hT 1 v
  obtain rfl : tellP ((M.setS k ((M.at k).setL 2 W)).doN k 4 ((M.at k).pc + 1)) k 1 v = N := congrArg Prod.fst e
  have en : ∀ c, lz ((tellP ((M.setS k ((M.at k).setL 2 W)).doN k 4 ((M.at k).pc + 1)) k 1 v).at k).num c = if c = 4 then (M.at k).pc + 1 else lz (M.at k).num c := fun c => by
    rw [tellP_at, eN, setN_lz (by show 4 < (M.at k).num.length; omega)]
    rfl
  refine ⟨by rw [tellP_words]; rfl, by rw [tellP_clocks]; rfl, ?_, by rw [tellP_sess, lN], fun j hj => by rw [tellP_at, oN j hj], fun c hc => by rw [en, if_neg hc], by rw [en, if_pos rfl]; rfl, by rw [tellP_at, eN, setN_len]; exact h14, by rw [tellP_at, eN]; rfl, by rw [tellP_at, eN]; rfl, by rw [tellP_at, eN]; exact eW.symm, hwo, ?_, ?_⟩
  · unfold tellP
    split <;> rfl
  · have e1 : ((tellP ((M.setS k ((M.at k).setL 2 W)).doN k 4 ((M.at k).pc + 1)) k 1 v).at k).writes = W := by rw [tellP_at, eN]; rfl
    unfold PSess.tn
    rw [e1]
    exact hin
  · unfold hereP
    rw [hm3, tellP_sess, lN, decide_eq_true (by omega : (0 : Int) ≤ k), decide_eq_true (by omega : (k : Int) < (M.sess.length : Int))]
    rfl
end Go.Proofs.YtlnenmfippedpaaGreat
namespace Go.Proofs.YtlnenmfippedpaaGreat
open Go.RowKit
set_option linter.unusedSimpArgs false
set_option linter.unusedVariables false
theorem tell_setS {M : PMach} {k : Nat} {x : PSess} {c v : Int} (hk : k < M.sess.length) (h0 : lz x.num 0 = lz (M.at k).num 0) (h1 : lz x.num 1 = lz (M.at k).num 1) : tellP (M.setS k x) k c v = (tellP M k c v).setS k x := by
  unfold tellP
  rw [PMach.at_setS hk, h0, h1]
  show (if M.trace.length / 4 < 512 then _ else _) = _
  split <;> rfl
theorem tell_doN {M : PMach} {k j : Nat} {c v x : Int} (hk : k < M.sess.length) (h0 : j ≠ 0) (h1 : j ≠ 1) : tellP (M.doN k j x) k c v = (tellP M k c v).doN k j x := by
  unfold PMach.doN
  rw [tell_setS hk (setN_other h0) (setN_other h1), tellP_at]
end Go.Proofs.YtlnenmfippedpaaGreat
namespace Go.Proofs.YtlnenmfippedpaaGreat
open Go.RowKit
set_option linter.unusedSimpArgs false
set_option linter.unusedVariables false
theorem row_only {W : World} {b : Nat} {v : Int} (h : Blk W b [.int .i64 v]) : Row W (some ⟨b, 0, none⟩) 1 fun _ => .int .i64 v := fun j hj => by
  obtain rfl : j = 0 := by omega
  exact ⟨b, 0, rfl, h.lt, h.cell 0 _ rfl⟩
theorem code_run (M : PMach) (i c : Int) (hc : c ≠ -1) : (hereP M i && decide (runP (M.at i.toNat) = c)) = atCodeP M i (fun _ => c) 1 := by
  have e : decide (runP (M.at i.toNat) = c) = ((M.at i.toNat).runs && inTo (fun _ => c) ((M.at i.toNat).ins 0) 1) := by
    unfold runP inTo
    cases (M.at i.toNat).runs
    · exact decide_eq_false (Ne.symm hc)
    · show decide ((M.at i.toNat).ins 0 = c) = _
      unfold inTo
      simp
  unfold atCodeP
  rw [e]
theorem stored_prog {M : PMach} {k : Nat} {l i v p : Int} (hk : k < M.sess.length) :
    tellP ((M.setS k ((M.at k).setL 2 ((M.at k).withW l i v))).doN k 4 p) k 1 v = ((tellP M k 1 v).setS k (((tellP M k 1 v).at k).setL 2 ((M.at k).withW l i v))).doN k 4 p := by
  rw [tell_doN (by rw [PMach.len_setS]; exact hk) (by decide) (by decide), tell_setS (x := (M.at k).setL 2 ((M.at k).withW l i v)) hk rfl rfl, tellP_at]
def zeroVL : List Value := [.int .i64 0, .int .i64 0, .int .i64 0]
theorem zeroV : ((Tryz.prog.info? 49).bind (·.zero)).map (·.cells) = some zeroVL.toArray := by kernel_rfl
set_option maxRecDepth 100000 in
set_option maxHeartbeats 4000000 in
theorem storeStep_any (A : MacM) (M : PMach) (i : Int) (w : World) (h : MachIs w A M) :
    Calls Tryz.prog 8 #[machA A M, .int .i64 i] w (MRet w (storeP M i)) := by
  have hX := hide h.sess.1
  have hrng := hide fun (k : Nat) (hk : k < A.s.n) (W : World) (hb : Below w.heap.size w W) => (h.below hb).sess.range hk
  have hSes : Hid (∀ (k : Nat) (hk : k < A.s.n) (W : World) (hb : Below w.heap.size w W), SessIs W (A.q k) (M.at k)) := fun k hk W hb => (h.below hb).sess.2.2.2 k hk
  have hIns := hide fun (k : Nat) (hk : k < A.s.n) (hok : SessOk M.lens (M.at k)) (c : Int) (hr : runP (M.at k) = c) (hc : c ≠ -1) => ins_at h hk hok hr hc
  have hAt := hide fun (b : Nat) (W : World) (hb : Below w.heap.size w W) (hB : Blk W b [.int .i64 3]) => standAtCode_any A M i (some ⟨b, 0, none⟩) 1 1 (fun _ => 3) W (h.below hb) (by decide) (row_only hB)
  have hTell := hide fun (v : Int) (W : World) (hb : Below w.heap.size w W) => gtelling_any A M i 1 v W (h.below hb)
  have eC := code_run M i 3 (by decide)
  obtain ⟨V0, hV0⟩ : ∃ V0, V0 = machA A M := ⟨_, rfl⟩
  rw [← hV0]
  have HV : Hid (V0.cells = (machL A M).toArray) := by rw [hV0]; rfl
  clear hV0
  have HM := hide h
  have HS := hide (St.refl w)
  clear h
  go_enter Tryz.func8, Tryz.ntmps8
  go_wp2_with (first | ((with_reducible refine isList ?_); first | (refine st_box HS _ _ rfl rfl (machL A M) HV.out ?_; clear HS; intro W bm HS) | (refine st_alloc HS _ rfl rfl zeroML zeroM ?_; clear HS; intro W br HS) | (refine st_loadA HS 1 rfl _ _ rfl rfl rfl (by decide +kernel) (by kernel_rfl) ?_)))
  replace HS := hide (HS.out.alloc [.int .i64 3] 3)
  refine (hAt.out _ _ HS.out.below (HS.out.blk 0 rfl)).mono ?_
  (rintro e Wq ⟨rfl, hb⟩; have HSq := hide (HS.out.on hb); clear HS hb; replace HS := HSq; clear HSq)
  replace HS : Hid (St w Wq [blkI br zeroML, blkI bm (machL A M)]) := hide (HS.out.sel [1, 2] (by decide) rfl)
  clear hAt
  cases hc : atCodeP M i (fun _ => 3) 1
  case false =>
    go_wp2_with (first | ((with_reducible refine isList ?_); first | (refine st_storeA HS 0 rfl _ _ _ rfl rfl rfl _ rfl rfl (by kernel_rfl) rfl ?_; clear HS; intro W HS)))
    rw [show storeP M i = (noMach, 1600) by unfold storeP; rw [eC, hc]; rfl]
    exact bodyPost_ret (ret_mach2 Tryz.results8 (HS.out.blk 0 rfl) rfl rfl rfl) rfl (mret_no HS.out.below)
  rw [hc] at eC
  simp only [Bool.and_eq_true, decide_eq_true_eq] at eC
  obtain ⟨hh, hr⟩ := eC
  obtain ⟨hmay, k, rfl, hk0⟩ := hereP_yes hh
  rw [Int.toNat_natCast] at hr
  have hk : k < A.s.n := by have := hX.out; omega
  have i2 : (k : Int) < (A.s.n : Int) := by omega
  have hok := hide (here_sess hmay hk0)
  obtain ⟨p, hI⟩ := hIns.out k hk hok.out 3 hr (by decide)
  obtain ⟨a, b, c, ⟨ea, ha⟩, ⟨eb, hb⟩, ⟨ec, hc3⟩⟩ := hI.word (.inr (hI.code hr (by decide)))
  obtain ⟨_, hsP, hsR, hsT⟩ := hSes.out k hk _ HS.out.below
  have eT : (M.at k).tn = (A.q k).t.n := hsT.len (by decide)
  obtain ⟨v, hv⟩ : ∃ v, v = lz (M.at k).num (5 + a) := ⟨_, rfl⟩
  have hv2 : 0 ≤ v ∧ v ≤ 255 := by rw [hv]; exact hok.out.reg ha
  have hW := hok.out.withW (l := b) (i := c) (v := v) (by omega) (by omega) hv2
  have hWn := hide (withWN_le (l := b) (i := c) (v := v) hok.out.writes)
  have eS : Hid (storeP M k = (((tellP M k 1 v).setS k (((tellP M k 1 v).at k).setL 2 ((M.at k).withW b c v))).doN k 4 ((p : Int) + 1), 0)) := by
    show storeP M k = _
    rw [storeP_ok hh hr, hI.ins 1, hI.ins 2, hI.ins 3, ea, eb, ec, Int.toNat_natCast, show (M.at k).pc = p from hI.pc, show (M.at k).reg a = v from hv.symm, stored_prog hk0]
  have hp := hide hI.pc
  have i1 : (p : Int) < ((A.q k).p.n : Int) := by have := hI.lt; omega
  have i3 : (a : Int) < 4 := by omega
  have hlt := hI.lt
  have hfew := hI.few
  have hTk := hide (hTell.out v)
  rw [show tellingP M k 1 v = (tellP M k 1 v, 0) by unfold tellingP; rw [hh, Int.toNat_natCast]; rfl] at hTk
  have eat := tellP_at M k 1 v k
  have esn : (tellP M k 1 v).sess.length = M.sess.length := by rw [tellP_sess]
  have hWith := hide fun (W : World) (hb : Below w.heap.size w W) => with_wc (A.q k).t.a (A.q k).t.n (A.q k).t.c (lz (M.at k).writes) b c v W (by have := hsT.2.1.1; omega) hsT.2.1.2.1 hsT.2.1.2.2 ((hSes.out k hk W hb).2.2.2.2.2)
  have hWe : withWE (A.q k).t.n (lz (M.at k).writes) b c v = 0 := by unfold withWE; rw [← eT, hW]; rfl
  replace hv := hide hv; replace eT := hide eT; replace hWe := hide hWe; replace ea := hide ea; replace eb := hide eb; replace ec := hide ec
  clear hTell hh hr hmay hI hIns hsP hsR hsT hW hv2 hc
  go_upto_region 3 with fail
  obtain ⟨bs, off, hbs, hbl, hR⟩ := hrng.out k hk _ HS.out.below
  replace hR := hide hR
  go_upto_region 4 with (first | ((with_reducible refine isList ?_); first | (refine st_load1 HS 1 rfl _ _ rfl _ rfl rfl (by decide +kernel) rfl ?_) | (refine wpList_load_at _ _ rfl rfl bs (off + k * 17) rfl (sessOf (A.q k) (M.at k)) (by decide +kernel) (by kernel_rfl) hR.out ?_) | (refine st_alloc HS _ rfl rfl zeroSL zeroS ?_; clear HS; intro W bx HS) | (refine st_storeA HS 0 rfl _ _ _ rfl rfl rfl _ rfl rfl (by kernel_rfl) rfl ?_; clear HS; intro W HS)))
  replace HS : Hid (St w W [blkI bx (sessL (lz (M.at k).num) (.slice (A.q k).p.a (A.q k).p.n (A.q k).p.c) (.slice (A.q k).r.a (A.q k).r.n (A.q k).r.c) (.slice (A.q k).t.a (A.q k).t.n (A.q k).t.c)), blkI br zeroML, blkI bm (machL A M)]) := HS
  clear hR hbs
  obtain ⟨bp, op, hbp, hpl, hR⟩ := (hSes.out k hk _ HS.out.below).2.1.four hlt
  rw [ea.out, eb.out, ec.out] at hR
  replace hR := hide hR
  have hp5 := hp.out
  go_upto_region 5 with (first | ((with_reducible refine isList ?_); first | (refine st_load1 HS 0 rfl _ _ rfl _ rfl rfl (by decide +kernel) rfl ?_) | (refine wpList_load_at _ _ rfl rfl bp (op + p * 4) rfl [.int .i64 (lz (M.at k).prog (p * 4)), .int .i64 a, .int .i64 b, .int .i64 c] (by decide +kernel) (by kernel_rfl) hR.out ?_) | (refine st_alloc HS _ rfl rfl zeroIL zeroI ?_; clear HS; intro W bi HS) | (refine st_storeA HS 0 rfl _ _ _ rfl rfl rfl _ rfl rfl (by kernel_rfl) rfl ?_; clear HS; intro W HS)))
  replace HS : Hid (St w W [blkI bi [.int .i64 (lz (M.at k).prog (p * 4)), .int .i64 a, .int .i64 b, .int .i64 c], blkI bx (sessL (lz (M.at k).num) (.slice (A.q k).p.a (A.q k).p.n (A.q k).p.c) (.slice (A.q k).r.a (A.q k).r.n (A.q k).r.c) (.slice (A.q k).t.a (A.q k).t.n (A.q k).t.c)), blkI br zeroML, blkI bm (machL A M)]) := HS
  clear hR hbp hp5
  have hreg : Hid (∀ w' : World, Blk w' bx (sessL (lz (M.at k).num) (.slice (A.q k).p.a (A.q k).p.n (A.q k).p.c) (.slice (A.q k).r.a (A.q k).r.n (A.q k).r.c) (.slice (A.q k).t.a (A.q k).t.n (A.q k).t.c)) → w'.cell? ⟨bx, 6 + a, none⟩ = some (.int .i64 v)) := fun w' h => by rw [hv.out]; exact h.cell (6 + a) _ (sessL_reg ha)
  have HB0 := HS.out.blk 0 rfl
  have HB1 := HS.out.blk 1 rfl
  (try simp only [Act.put, List.setIfInBounds_toArray, List.set_cons_zero, List.set_cons_succ])
  refine wp_region_mask [true, true, true, true, true, true, true, true, true, true, false, false] [false, false, false, false, false, false, false, false, false, false, true, true] [0, 1] (fun w' => Blk w' bi [.int .i64 (lz (M.at k).prog (p * 4)), .int .i64 a, .int .i64 b, .int .i64 c] ∧ Blk w' bx (sessL (lz (M.at k).num) (.slice (A.q k).p.a (A.q k).p.n (A.q k).p.c) (.slice (A.q k).r.a (A.q k).r.n (A.q k).r.c) (.slice (A.q k).t.a (A.q k).t.n (A.q k).t.c))) (by kernel_rfl) (by kernel_rfl) (by kernel_rfl) (by decide +kernel) ⟨HB0.drew, HB1.drew⟩ ?_
  intro kne
  simp only [pickAt]
  repeat (first | ((first | (refine wpQuiet_ld _ _ rfl ⟨bi, 2, none⟩ rfl rfl (by decide +kernel) (fun w hC => hC.1.cell 2 _ rfl) ?_) | (refine wpQuiet_ld _ _ rfl ⟨bi, 3, none⟩ rfl rfl (by decide +kernel) (fun w hC => hC.1.cell 3 _ rfl) ?_) | (refine wpQuiet_ld _ _ rfl ⟨bi, 1, none⟩ rfl rfl (by decide +kernel) (fun w hC => hC.1.cell 1 _ rfl) ?_) | (refine wpQuiet_ld _ _ rfl ⟨bx, 6 + a, none⟩ rfl rfl (by decide +kernel) (fun w hC => hreg.out _ hC.2) ?_)); simp only [Act.put, List.setIfInBounds_toArray, List.set_cons_zero, List.set_cons_succ]) | go_big_quiet_step (fail))
  refine wpQuiet_nil ?_
  clear kne HB0 HB1
  replace HS := hide HS.out.drew
  generalize World.drew _ = Wd at *
  refine wpRest_cons rfl rfl fun K hK => ?_
  refine stw_alloc HS _ rfl zeroVL zeroV ?_
  clear HS
  intro W3 bw HS
  refine hK _ _ (fun _ => InC.mk ⟨HS.out.blk 1 rfl, HS.out.blk 2 rfl⟩) ?_
  clear hK K
  (try simp only [Act.put, List.setIfInBounds_toArray, List.set_cons_zero, List.set_cons_succ])
  refine wpRest_cons rfl rfl fun K hK => ?_
  refine stw_storeA HS 0 rfl _ _ _ rfl rfl [.int .i64 b, .int .i64 c, .int .i64 v] rfl rfl (by kernel_rfl) rfl ?_
  clear HS
  intro W4 HS
  refine hK _ _ (fun h => by cases h) (wpRest_nil ?_)
  clear hK K
  (try simp only [Act.put, List.setIfInBounds_toArray, List.set_cons_zero, List.set_cons_succ])
  refine NoPanic.normal ?_
  replace HS : Hid (St w W4 [blkI bw [.int .i64 b, .int .i64 c, .int .i64 v], blkI bi [.int .i64 (lz (M.at k).prog (p * 4)), .int .i64 a, .int .i64 b, .int .i64 c], blkI bx (sessL (lz (M.at k).num) (.slice (A.q k).p.a (A.q k).p.n (A.q k).p.c) (.slice (A.q k).r.a (A.q k).r.n (A.q k).r.c) (.slice (A.q k).t.a (A.q k).t.n (A.q k).t.c)), blkI br zeroML, blkI bm (machL A M)]) := HS
  generalize tellP M k 1 v = T at *
  go_wp2_with (first | ((with_reducible refine isList ?_); first | (refine st_load1 HS 0 rfl _ _ rfl _ rfl rfl (by decide +kernel) rfl ?_) | (refine st_loadA HS 4 rfl _ _ rfl rfl rfl (by decide +kernel) (by kernel_rfl) ?_)))
  refine (hTk.out _ HS.out.below).mono ?_
  (rintro e Wq ⟨A1, rfl, hO, hb⟩; have HSq := hide (HS.out.push hb (machI (fun k => _) A1 _) (machI_loc _ _ _) hO fun k hk => hk); generalize (fun k => _) = D1 at HSq; clear HS hb hO; replace HS := HSq; clear HSq)
  clear hTk
  have hk1 : k < A1.s.n := by
    have := (MachOwn.is (show MachOwn D1 _ A1 T from HS.out.get 0 rfl)).sess.1
    have := hX.out
    omega
  have i4 : (k : Int) < (A1.s.n : Int) := by omega
  obtain ⟨bs1, hbs1, _⟩ := MachOwn.sblk (show MachOwn D1 _ A1 T from HS.out.get 0 rfl) hk1
  replace hbs1 := hide hbs1
  go_upto_region 7 with (first | ((with_reducible refine isList ?_); first | (refine st_alloc HS _ rfl rfl zeroML zeroM ?_; clear HS; intro W bn HS) | (refine st_storeA HS 0 rfl _ _ _ rfl rfl rfl _ rfl rfl (by kernel_rfl) rfl ?_; clear HS; intro W HS)))
  replace HS : Hid (St w W [blkI bn (machL A1 T), machI D1 A1 T, blkI bw [.int .i64 b, .int .i64 c, .int .i64 v], blkI bi [.int .i64 (lz (M.at k).prog (p * 4)), .int .i64 a, .int .i64 b, .int .i64 c], blkI bx (sessL (lz (M.at k).num) (.slice (A.q k).p.a (A.q k).p.n (A.q k).p.c) (.slice (A.q k).r.a (A.q k).r.n (A.q k).r.c) (.slice (A.q k).t.a (A.q k).t.n (A.q k).t.c)), blkI br zeroML, blkI bm (machL A M)]) := HS
  have c9 : W.cell? ⟨bn, 9, none⟩ = some (.slice (some ⟨bs1, 0, none⟩) A1.s.n A1.s.c) := by rw [← hbs1.out]; exact (HS.out.blk 0 rfl).cell 9 _ rfl
  go_upto_region 8 with fail
  clear c9
  go_wp2_with (first | ((with_reducible refine isList ?_); first | (refine st_load1 HS 4 rfl _ _ rfl _ rfl rfl (by decide +kernel) rfl ?_) | (refine st_loadA HS 2 rfl _ _ rfl rfl rfl (by decide +kernel) (by kernel_rfl) ?_)))
  refine (hWith.out _ HS.out.below).mono ?_
  rintro e W7 ⟨x, rfl, hx0, hxc, hxn, _, hxo, hb⟩
  generalize hWd : W = Wd at *
  clear hWd
  have hL := lis_of (D := fun j => Wd.heap.size ≤ j ∧ j < W7.heap.size) (k := 3) ⟨by have := hWn.out; rw [hxn, ← eT.out]; omega, hxc, hx0⟩ fun h0 => by obtain ⟨b, e1, e2, e3, e4⟩ := hxo h0; exact ⟨b, e1, ⟨e2, e3⟩, e4⟩
  rw [show (List.range (x.n * 3)).map (withWZ (A.q k).t.n (lz (M.at k).writes) b c v) = (M.at k).withW b c v by rw [hxn]; unfold PSess.withW; rw [eT.out]] at hL
  have HS1 := hide (HS.out.push hb (lisI (fun j => _) 3 x _) (lisI_loc _ _ _ _) hL fun k hk => hk)
  generalize (fun j => _) = D3 at HS1
  clear hL hxo hxn hx0 hxc hb HS
  replace HS := HS1
  clear HS1
  rw [hWe.out]
  replace hbs1 := hbs1.out
  have hTat : Hid (T.at k = M.at k) := eat
  go_upto_region 9 with (first | ((with_reducible refine isList ?_); first | (refine st_storeL HS 2 0 rfl 2 (by decide) rfl (by decide) hk1 hbs1 _ _ _ rfl _ rfl (show _ = k * 17 + 11 from by with_reducible rfl) rfl rfl (by decide +kernel) ?_; clear HS; intro W HS)))
  replace HS : Hid (St w W [empI, blkI bn (machL (A1.setQ k ((A1.q k).setL 2 x)) (T.setS k ((T.at k).setL 2 ((M.at k).withW b c v)))), machI (fun k => D1 k ∨ D3 k) (A1.setQ k ((A1.q k).setL 2 x)) (T.setS k ((T.at k).setL 2 ((M.at k).withW b c v))), blkI bw [.int .i64 b, .int .i64 c, .int .i64 v], blkI bi [.int .i64 (lz (M.at k).prog (p * 4)), .int .i64 a, .int .i64 b, .int .i64 c], blkI bx (sessL (lz (M.at k).num) (.slice (A.q k).p.a (A.q k).p.n (A.q k).p.c) (.slice (A.q k).r.a (A.q k).r.n (A.q k).r.c) (.slice (A.q k).t.a (A.q k).t.n (A.q k).t.c)), blkI br zeroML, blkI bm (machL A M)]) := HS
  have hTn : Hid (k < T.sess.length) := by show _ < _; rw [esn]; exact hk0
  have hp1 : lz ((T.setS k ((T.at k).setL 2 ((M.at k).withW b c v))).at k).num 4 = p := by rw [PMach.at_setS hTn.out]; show lz (T.at k).num 4 = p; rw [hTat.out]; exact hp.out
  replace hk1 : k < (A1.setQ k ((A1.q k).setL 2 x)).s.n := hk1
  have hbs2 : A1.s = (A1.setQ k ((A1.q k).setL 2 x)).s := rfl
  rw [hbs2] at hbs1
  generalize (fun k => D1 k ∨ D3 k) = D2 at HS
  generalize T.setS k ((T.at k).setL 2 ((M.at k).withW b c v)) = M1 at HS eS hp1
  generalize A1.setQ k ((A1.q k).setL 2 x) = A2 at HS hk1 hbs1 hbs2
  replace hbs2 := hide hbs2
  clear eat esn
  go_upto_region 10 with (first | ((with_reducible refine isList ?_); first | (refine st_loadS (MachOwn.is (HS.out.get 2 (x := machI D2 A2 M1) rfl)) hk1 hbs1 5 (by decide) rfl _ _ rfl _ rfl (by rw [Nat.zero_add] <;> rfl) rfl (by decide +kernel) ?_) | (refine st_storeN HS 2 rfl hk1 hbs1 4 (by decide) _ _ _ rfl _ rfl (show _ = k * 17 + 5 from by with_reducible rfl) rfl rfl (by decide +kernel) ?_; clear HS; intro W HS)))
  replace HS : Hid (St w W [empI, blkI bn (machL A2 (M1.doN k 4 ((p : Int) + 1))), machI D2 A2 (M1.doN k 4 ((p : Int) + 1)), blkI bw [.int .i64 b, .int .i64 c, .int .i64 v], blkI bi [.int .i64 (lz (M.at k).prog (p * 4)), .int .i64 a, .int .i64 b, .int .i64 c], blkI bx (sessL (lz (M.at k).num) (.slice (A.q k).p.a (A.q k).p.n (A.q k).p.c) (.slice (A.q k).r.a (A.q k).r.n (A.q k).r.c) (.slice (A.q k).t.a (A.q k).t.n (A.q k).t.c)), blkI br zeroML, blkI bm (machL A M)]) := HS
  generalize M1.doN k 4 ((p : Int) + 1) = R at HS eS
  clear hp1
  go_wp2_with (first | ((with_reducible refine isList ?_); first | (refine st_loadA HS 1 rfl _ _ rfl rfl rfl (by decide +kernel) (by kernel_rfl) ?_) | (refine st_storeA HS 6 rfl _ _ _ rfl rfl rfl _ rfl rfl (by kernel_rfl) rfl ?_; clear HS; intro W HS)))
  rw [eS.out]
  exact bodyPost_ret (ret_mach2 Tryz.results8 (HS.out.blk 6 rfl) rfl rfl rfl) rfl (mret_of (R := (R, 0)) HS.out 2 (D := D2) (A := A2) rfl)
end Go.Proofs.YtlnenmfippedpaaGreat
