/-
  The landed calc: Step.
-/
import Derived.Test.YtnjognmnbpcaaaaGreatZlbb
import Derived.Test.YtnjognmnbpcaaaaGreatZhCalcRef
import Derived.Test.YtnjognmnbpcaaaaGreatZhRegsProg
import Derived.Test.YtnjognmnbpcaaaaGreatZlah
import Derived.Test.YtnjognmnbpcaaaaGreatZlac
import Derived.Test.YtnjognmnbpcaaaaGreatZlai
import Derived.BigQuiet
namespace Go.Proofs.YtnjognmnbpcaaaaGreat
open Go.RowKit
set_option linter.unusedSimpArgs false
set_option linter.unusedVariables false
def calcCodes (j : Nat) : Int := if j = 0 then 0 else if j = 1 then 1 else 4
theorem row_three {W : World} {b : Nat} {x y z : Int} (h : Blk W b [.int .i64 x, .int .i64 y, .int .i64 z]) : Row W (some ⟨b, 0, none⟩) 3 fun j => .int .i64 (if j = 0 then x else if j = 1 then y else z) := fun j hj => by
  have : j = 0 ∨ j = 1 ∨ j = 2 := by omega
  rcases this with rfl | rfl | rfl
  · exact ⟨b, 0, rfl, h.lt, h.cell 0 _ rfl⟩
  · exact ⟨b, 0, rfl, h.lt, h.cell 1 _ rfl⟩
  · exact ⟨b, 0, rfl, h.lt, h.cell 2 _ rfl⟩
theorem code_run3 (M : PMach) (i : Int) : (hereP M i && (decide (runP (M.at i.toNat) = 0) || (decide (runP (M.at i.toNat) = 1) || decide (runP (M.at i.toNat) = 4)))) = atCodeP M i calcCodes 3 := by
  have e : (decide (runP (M.at i.toNat) = 0) || (decide (runP (M.at i.toNat) = 1) || decide (runP (M.at i.toNat) = 4))) = ((M.at i.toNat).runs && inTo calcCodes ((M.at i.toNat).ins 0) 3) := by
    unfold runP
    cases (M.at i.toNat).runs
    · rfl
    · show (decide ((M.at i.toNat).ins 0 = 0) || (decide ((M.at i.toNat).ins 0 = 1) || decide ((M.at i.toNat).ins 0 = 4))) = (((false || decide ((M.at i.toNat).ins 0 = 0)) || decide ((M.at i.toNat).ins 0 = 1)) || decide ((M.at i.toNat).ins 0 = 4))
      rw [Bool.false_or, Bool.or_assoc]
  unfold atCodeP
  rw [e]
section
variable {M : PMach} {k : Nat}
theorem setS_doN' (hk : k < M.sess.length) {x : PSess} {j : Nat} {v : Int} : (M.setS k x).doN k j v = M.setS k (x.setN j v) := by
  unfold PMach.doN
  rw [PMach.at_setS hk, setS_setS M k]
theorem doN_doR (hk : k < M.sess.length) {u a b c d : Int} : (M.doN k 4 u).doR k a b c d = (M.doR k a b c d).doN k 4 u := by
  unfold PMach.doR
  rw [show M.doN k 4 u = M.setS k ((M.at k).setN 4 u) from rfl, show M.doN k 5 a = M.setS k ((M.at k).setN 5 a) from rfl]
  rw [setS_doN' hk, setS_doN' hk, setS_doN' hk, setS_doN' hk, setS_doN' hk, setS_doN' hk, setS_doN' hk, setS_doN' hk]
  congr 1
  unfold PSess.setN
  simp only [PSess.mk.injEq, and_true]
  rw [List.set_comm (i := 4) (j := 5) _ _ (by decide), List.set_comm (i := 4) (j := 6) _ _ (by decide), List.set_comm (i := 4) (j := 7) _ _ (by decide), List.set_comm (i := 4) (j := 8) _ _ (by decide)]
theorem doN_doN (hk : k < M.sess.length) {j : Nat} {u v : Int} : (M.doN k j u).doN k j v = M.doN k j v := by
  rw [show M.doN k j u = M.setS k ((M.at k).setN j u) from rfl, setS_doN' hk]
  unfold PMach.doN PSess.setN
  simp only [List.set_set]
theorem num_same {l : List Int} {j : Nat} (h : j < l.length) : l.set j (lz l j) = l := by
  refine List.ext_getElem (by simp) fun i h1 h2 => ?_
  rw [List.getElem_set]
  split
  · rename_i e; subst e; simp [lz, List.getD, h]
  · rfl
theorem doR_same (hk : k < M.sess.length) (h : (M.at k).num.length = 14) : M.doR k (regsI (lz (M.at k).num) 0) (regsI (lz (M.at k).num) 1) (regsI (lz (M.at k).num) 2) (regsI (lz (M.at k).num) 3) = M := by
  unfold PMach.doR
  rw [show M.doN k 5 (regsI (lz (M.at k).num) 0) = M.setS k ((M.at k).setN 5 (regsI (lz (M.at k).num) 0)) from rfl]
  rw [setS_doN' hk, setS_doN' hk, setS_doN' hk]
  have e : ((((M.at k).setN 5 (regsI (lz (M.at k).num) 0)).setN 6 (regsI (lz (M.at k).num) 1)).setN 7 (regsI (lz (M.at k).num) 2)).setN 8 (regsI (lz (M.at k).num) 3) = M.at k := by
    unfold PSess.setN regsI
    rw [show (M.at k).num.set 5 (lz (M.at k).num (5 + 0)) = (M.at k).num from num_same (j := 5) (by omega), show (M.at k).num.set 6 (lz (M.at k).num (5 + 1)) = (M.at k).num from num_same (j := 6) (by omega), show (M.at k).num.set 7 (lz (M.at k).num (5 + 2)) = (M.at k).num from num_same (j := 7) (by omega), show (M.at k).num.set 8 (lz (M.at k).num (5 + 3)) = (M.at k).num from num_same (j := 8) (by omega)]
  rw [e]
  show (⟨M.words, M.clocks, M.ceil, M.sess.set k (M.at k), M.trace⟩ : PMach) = M
  have e2 : M.sess.set k (M.at k) = M.sess := by
    refine List.ext_getElem (by simp) fun i h1 h2 => ?_
    rw [List.getElem_set]
    split
    · rename_i e; subst e; simp [PMach.at, List.getD, hk]
    · rfl
  rw [e2]
end
set_option maxRecDepth 100000 in
set_option maxHeartbeats 4000000 in
theorem calcStep_any (A : MacM) (M : PMach) (i : Int) (w : World) (h : MachIs w A M) :
    Calls Tryz.prog 9 #[machA A M, .int .i64 i] w (MRet w (calcP M i)) := by
  have hX := hide h.sess.1
  have hNum := hide fun (k : Nat) (hk : k < A.s.n) => (h.sess.2.2.2 k hk).1
  have hProg := hide fun (k : Nat) (hk : k < A.s.n) => (h.sess.2.2.2 k hk).2.1.1
  have hIns := hide fun (k : Nat) (hk : k < A.s.n) (hok : SessOk M.lens (M.at k)) (c : Int) (hr : runP (M.at k) = c) (hc : c ≠ -1) => ins_at h hk hok hr hc
  have hAt := hide fun (b : Nat) (W : World) (hb : Below w.heap.size w W) (hB : Blk W b [.int .i64 0, .int .i64 1, .int .i64 4]) => standAtCode_any A M i (some ⟨b, 0, none⟩) 3 3 calcCodes W (h.below hb) (by decide) (row_three hB)
  have hCopy := hide fun (W : World) (hb : Below w.heap.size w W) => anewMachine_any A M W (h.below hb)
  have eC := code_run3 M i
  obtain ⟨V0, hV0⟩ : ∃ V0, V0 = machA A M := ⟨_, rfl⟩
  rw [← hV0]
  have HV : Hid (V0.cells = (machL A M).toArray) := by rw [hV0]; rfl
  clear hV0
  have HM := hide h
  have HS := hide (St.refl w)
  clear h
  go_enter Tryz.func9, Tryz.ntmps9
  go_wp2_with (first | ((with_reducible refine isList ?_); first | (refine st_box HS _ _ rfl rfl (machL A M) HV.out ?_; clear HS; intro W bm HS) | (refine st_alloc HS _ rfl rfl zeroML zeroM ?_; clear HS; intro W br HS) | (refine st_loadA HS 1 rfl _ _ rfl rfl rfl (by decide +kernel) (by kernel_rfl) ?_)))
  replace HS := hide (HS.out.alloc [.int .i64 0, .int .i64 1, .int .i64 4] 3)
  refine (hAt.out _ _ HS.out.below (HS.out.blk 0 rfl)).mono ?_
  (rintro e Wq ⟨rfl, hb⟩; have HSq := hide (HS.out.on hb); clear HS hb; replace HS := HSq; clear HSq)
  replace HS : Hid (St w Wq [blkI br zeroML, blkI bm (machL A M)]) := hide (HS.out.sel [1, 2] (by decide) rfl)
  clear hAt
  cases hc : atCodeP M i calcCodes 3
  case false =>
    go_wp2_with (first | ((with_reducible refine isList ?_); first | (refine st_storeA HS 0 rfl _ _ _ rfl rfl rfl _ rfl rfl (by kernel_rfl) rfl ?_; clear HS; intro W HS)))
    rw [show calcP M i = (noMach, 1700) by unfold calcP; rw [eC, hc]; rfl]
    exact bodyPost_ret (ret_mach2 Tryz.results9 (HS.out.blk 0 rfl) rfl rfl rfl) rfl (mret_no HS.out.below)
  rw [hc] at eC
  simp only [Bool.and_eq_true, Bool.or_eq_true, decide_eq_true_eq] at eC
  obtain ⟨hh, hr⟩ := eC
  obtain ⟨hmay, k, rfl, hk0⟩ := hereP_yes hh
  rw [Int.toNat_natCast] at hr
  have hk : k < A.s.n := by have := hX.out; omega
  have hok := hide (here_sess hmay hk0)
  obtain ⟨c, ec⟩ : ∃ c, runP (M.at k) = c := ⟨_, rfl⟩
  obtain ⟨p, hI⟩ := hIns.out k hk hok.out c ec (by omega)
  obtain ⟨a, ea⟩ : ∃ a, lz (M.at k).prog (p * 4 + 1) = a := ⟨_, rfl⟩
  obtain ⟨b, eb⟩ : ∃ b, lz (M.at k).prog (p * 4 + 2) = b := ⟨_, rfl⟩
  obtain ⟨d, ed⟩ : ∃ d, lz (M.at k).prog (p * 4 + 3) = d := ⟨_, rfl⟩
  have e0 : lz (M.at k).prog (p * 4) = c := hI.code ec (by omega)
  have hlt := hI.lt
  have hfew := hI.few
  have h14 := hNum.out k hk
  have eS : Hid (calcP M k = ((M.doR k (calcR (M.at k) 0) (calcR (M.at k) 1) (calcR (M.at k) 2) (calcR (M.at k) 3)).doN k 4 (calcTo (M.at k)), 0)) := by
    show _ = _
    exact calcP_yes hh hr rfl rfl
  have hpn := hProg.out k hk
  have hreg : c = 4 → ∃ a' : Nat, a = a' ∧ a' < 4 := fun h => by
    obtain ⟨a', h1, h2⟩ := hI.reg (e0.trans h)
    exact ⟨a', ea.symm.trans h1, h2⟩
  have hp4 := hide hI.pc
  have hR := hide hI.ins
  rw [ec] at hr
  replace hh := hide hh; replace hmay := hide hmay; replace e0 := hide e0; replace ea := hide ea; replace eb := hide eb; replace ed := hide ed; replace ec := hide ec; replace h14 := hide h14; replace hpn := hide hpn; replace hr := hide hr; replace hreg := hide hreg
  clear hI hIns hc hNum hProg
  go_wp2_with (first | ((with_reducible refine isList ?_); first | (refine st_loadA HS 1 rfl _ _ rfl rfl rfl (by decide +kernel) (by kernel_rfl) ?_)))
  refine (hCopy.out _ HS.out.below).mono ?_
  (rintro e Wq ⟨A1, rfl, hO, hb⟩; have HSq := hide (HS.out.push hb (machI (fun k => _) A1 _) (machI_loc _ _ _) hO fun k hk => hk); generalize (fun k => _) = D1 at HSq; clear HS hb hO; replace HS := HSq; clear HSq)
  clear hCopy
  have hk1 : k < A1.s.n := by
    have := (MachOwn.is (show MachOwn D1 _ A1 M from HS.out.get 0 rfl)).sess.1
    have := hX.out
    omega
  have i4 : (k : Int) < (A1.s.n : Int) := by omega
  have hp1 : p < (A1.q k).p.n := by
    have := ((MachOwn.is (show MachOwn D1 _ A1 M from HS.out.get 0 rfl)).sess.2.2.2 k hk1).2.1.1
    have h2 := hpn.out
    have h3 : (M.at k).prog.length = (A1.q k).p.n * 4 := this
    omega
  have i1 : (p : Int) < ((A1.q k).p.n : Int) := by omega
  obtain ⟨bs1, hbs1, _⟩ := MachOwn.sblk (show MachOwn D1 _ A1 M from HS.out.get 0 rfl) hk1
  obtain ⟨bp, hbp, _⟩ := MachOwn.pblk (show MachOwn D1 _ A1 M from HS.out.get 0 rfl) hk1 (by omega)
  have HC : Hid (∀ W', MachOwn D1 W' A1 M → W'.cell? ⟨bs1, k * 17 + 3, none⟩ = some (.slice (some ⟨bp, 0, none⟩) (A1.q k).p.n (A1.q k).p.c) ∧ W'.cell? ⟨bs1, k * 17 + 5, none⟩ = some (.int .i64 p) ∧ W'.rangeAt bp (p * 4) [.int .i64 c, .int .i64 a, .int .i64 b, .int .i64 d]) := fun W' hM => by
    obtain ⟨bs', off, e1, _, hr'⟩ := hM.is.sess.range hk1
    rw [hbs1] at e1; cases e1
    rw [Nat.zero_add] at hr'
    refine ⟨by rw [← hbp]; exact hr' 3 _ rfl, by rw [← hp4.out]; exact hr' 5 _ rfl, ?_⟩
    obtain ⟨b', off', e2, _, h4⟩ := (hM.is.sess.2.2.2 k hk1).2.1.four hp1
    rw [hbp] at e2; cases e2
    rw [Nat.zero_add] at h4
    have h5 : W'.rangeAt bp (p * 4) [.int .i64 (lz (M.at k).prog (p * 4)), .int .i64 (lz (M.at k).prog (p * 4 + 1)), .int .i64 (lz (M.at k).prog (p * 4 + 2)), .int .i64 (lz (M.at k).prog (p * 4 + 3))] := h4
    rw [e0.out, ea.out, eb.out, ed.out] at h5
    exact h5
  replace hbs1 := hide hbs1
  replace hbp := hide hbp
  go_upto_region 4 with (first | ((with_reducible refine isList ?_); first | (refine st_alloc HS _ rfl rfl zeroML zeroM ?_; clear HS; intro W bo HS) | (refine st_storeA HS 0 rfl _ _ _ rfl rfl rfl _ rfl rfl (by kernel_rfl) rfl ?_; clear HS; intro W HS)))
  replace HS : Hid (St w W [blkI bo (machL A1 M), machI D1 A1 M, blkI br zeroML, blkI bm (machL A M)]) := HS
  have c9 : W.cell? ⟨bo, 9, none⟩ = some (.slice (some ⟨bs1, 0, none⟩) A1.s.n A1.s.c) := by rw [← hbs1.out]; exact (HS.out.blk 0 rfl).cell 9 _ rfl
  go_upto_region 5 with fail
  clear c9
  have HB0 := HC.out _ (HS.out.drew.get 1 rfl)
  (try simp only [Act.put, List.setIfInBounds_toArray, List.set_cons_zero, List.set_cons_succ])
  refine wp_region_mask [true, true, true, true, true, true, true, true, true, true, false, false] [false, false, false, false, false, false, false, false, false, false, true, true] [0, 1] (fun W' => W'.cell? ⟨bs1, k * 17 + 3, none⟩ = some (.slice (some ⟨bp, 0, none⟩) (A1.q k).p.n (A1.q k).p.c) ∧ W'.cell? ⟨bs1, k * 17 + 5, none⟩ = some (.int .i64 p) ∧ W'.rangeAt bp (p * 4) [.int .i64 c, .int .i64 a, .int .i64 b, .int .i64 d]) (by kernel_rfl) (by kernel_rfl) (by kernel_rfl) (by decide +kernel) HB0 ?_
  intro kne
  simp only [pickAt]
  repeat (first | ((first | (refine wpQuiet_la _ _ rfl bp (p * 4) rfl rfl (by decide +kernel) [.int .i64 c, .int .i64 a, .int .i64 b, .int .i64 d] (by kernel_rfl) (fun w hC => hC.2.2) ?_) | (refine wpQuiet_ld _ _ rfl ⟨bs1, k * 17 + 3, none⟩ rfl rfl (by decide +kernel) (fun w hC => hC.1) ?_) | (refine wpQuiet_ld _ _ rfl ⟨bs1, k * 17 + 5, none⟩ rfl rfl (by decide +kernel) (fun w hC => hC.2.1) ?_)); simp only [Act.put, List.setIfInBounds_toArray, List.set_cons_zero, List.set_cons_succ]) | go_big_quiet_step (fail))
  refine wpQuiet_nil ?_
  clear kne HB0
  replace HS := hide HS.out.drew
  generalize World.drew _ = Wd at *
  refine wpRest_cons rfl rfl fun K hK => ?_
  refine stw_alloc HS _ rfl zeroIL zeroI ?_
  clear HS
  intro W3 bi HS
  refine hK _ _ (fun _ => InC.mk (HC.out _ (HS.out.get 2 rfl))) ?_
  clear hK K
  (try simp only [Act.put, List.setIfInBounds_toArray, List.set_cons_zero, List.set_cons_succ])
  refine wpRest_cons rfl rfl fun K hK => ?_
  refine stw_storeA HS 0 rfl _ _ _ rfl rfl [.int .i64 c, .int .i64 a, .int .i64 b, .int .i64 d] rfl rfl (by kernel_rfl) rfl ?_
  clear HS
  intro W4 HS
  refine hK _ _ (fun h => by cases h) (wpRest_nil ?_)
  clear hK K
  (try simp only [Act.put, List.setIfInBounds_toArray, List.set_cons_zero, List.set_cons_succ])
  refine NoPanic.normal ?_
  replace HS : Hid (St w W4 [blkI bi [.int .i64 c, .int .i64 a, .int .i64 b, .int .i64 d], blkI bo (machL A1 M), machI D1 A1 M, blkI br zeroML, blkI bm (machL A M)]) := HS
  obtain ⟨-, c5, -⟩ := HC.out _ (HS.out.get 2 rfl)
  clear HC
  replace hbs1 := hbs1.out
  have hp16 : (p : Int) < 16 := by omega
  go_upto_region 7 with (first | ((with_reducible refine isList ?_); first | (refine st_storeN HS 2 rfl hk1 hbs1 4 (by decide) _ _ _ rfl _ rfl (show _ = k * 17 + 5 from by with_reducible rfl) rfl rfl (by decide +kernel) ?_; clear HS; intro W HS)))
  clear c5
  replace HS : Hid (St w W [blkI bi [.int .i64 c, .int .i64 a, .int .i64 b, .int .i64 d], blkI bo (machL A1 (M.doN k 4 ((p : Int) + 1))), machI D1 A1 (M.doN k 4 ((p : Int) + 1)), blkI br zeroML, blkI bm (machL A M)]) := HS
  obtain ⟨M1, eM1⟩ : ∃ M1, M.doN k 4 ((p : Int) + 1) = M1 := ⟨_, rfl⟩
  rw [eM1] at HS
  have hn : ∀ c, c ≠ 4 → lz (M1.at k).num c = lz (M.at k).num c := fun c hc => by
    have h5 : (M.at k).num.length = 14 := h14.out
    rw [← eM1, show M.doN k 4 ((p : Int) + 1) = M.setS k ((M.at k).setN 4 ((p : Int) + 1)) from rfl, PMach.at_setS hk0, setN_lz (by omega), if_neg hc]
  have hM1 : Hid (M1 = M.doN k 4 ((p : Int) + 1)) := eM1.symm
  clear eM1
  have HC : Hid (∀ W', MachOwn D1 W' A1 M1 → Blk W' bi [.int .i64 c, .int .i64 a, .int .i64 b, .int .i64 d] → W'.rangeAt bs1 (k * 17 + 6) [.int .i64 (lz (M.at k).num 5), .int .i64 (lz (M.at k).num 6), .int .i64 (lz (M.at k).num 7), .int .i64 (lz (M.at k).num 8)] ∧ W'.cell? ⟨bi, 1, none⟩ = some (.int .i64 a) ∧ W'.cell? ⟨bi, 2, none⟩ = some (.int .i64 b)) := fun W' hM hB => by
    refine ⟨fun j v hj => ?_, hB.cell 1 _ rfl, hB.cell 2 _ rfl⟩
    obtain ⟨bs', off, e1, _, hr'⟩ := hM.is.sess.range hk1
    rw [hbs1] at e1; cases e1
    rw [Nat.zero_add] at hr'
    have hj4 : j < 4 := by simpa using (List.getElem?_eq_some_iff.1 hj).1
    rw [← hn 5 (by decide), ← hn 6 (by decide), ← hn 7 (by decide), ← hn 8 (by decide)] at hj
    rw [Nat.add_assoc]
    refine hr' (6 + j) v ?_
    have : j = 0 ∨ j = 1 ∨ j = 2 ∨ j = 3 := by omega
    rcases this with rfl | rfl | rfl | rfl <;> exact hj
  replace hn := hide hn
  rcases hr.out with h0 | h0 | h0
  · subst h0
    obtain ⟨R, eR⟩ : ∃ R, setC (regsI (lz (M.at k).num)) a b = R := ⟨_, rfl⟩
    have hQ := hide fun W => set_c (regsI (lz (M.at k).num)) a b W
    rw [eR] at hQ
    have eS1 : Hid (calcP M k = (M1.doR k (R 0) (R 1) (R 2) (R 3), 0)) := by
      show _ = _
      have e1 : calcR (M.at k) = R := by unfold calcR; rw [if_pos ec.out]; rw [hR.out 1, hR.out 2, ea.out, eb.out]; exact eR
      have e2 : calcTo (M.at k) = (p : Int) + 1 := by unfold calcTo; rw [if_neg (by rw [ec.out]; omega)]; exact congrArg (· + 1) hp4.out
      rw [eS.out, e1, e2, hM1.out, doN_doR hk0]
    replace eR := hide eR
    clear eS
    have HB1 : (W.drew.rangeAt bs1 (k * 17 + 6) [.int .i64 (lz (M.at k).num 5), .int .i64 (lz (M.at k).num 6), .int .i64 (lz (M.at k).num 7), .int .i64 (lz (M.at k).num 8)] ∧ W.drew.cell? ⟨bi, 1, none⟩ = some (.int .i64 a) ∧ W.drew.cell? ⟨bi, 2, none⟩ = some (.int .i64 b)) := HC.out _ (HS.out.drew.get 2 rfl) (HS.out.drew.blk 0 rfl)
    have c0 : W.cell? ⟨bi, 0, none⟩ = some (.int .i64 0) := (HS.out.blk 0 rfl).cell 0 _ rfl
    go_upto_region 9 with fail
    clear c0
    (try simp only [Act.put, List.setIfInBounds_toArray, List.set_cons_zero, List.set_cons_succ])
    refine wp_region_mask [true, true, true, true, true, true, true, true, true, false, false, false, false, false, false, false] [false, false, false, false, false, false, false, false, false, true, true, true, true, true, true, true] [0, 3, 3, 3, 3, 3, 1] (fun W' => W'.rangeAt bs1 (k * 17 + 6) [.int .i64 (lz (M.at k).num 5), .int .i64 (lz (M.at k).num 6), .int .i64 (lz (M.at k).num 7), .int .i64 (lz (M.at k).num 8)] ∧ W'.cell? ⟨bi, 1, none⟩ = some (.int .i64 a) ∧ W'.cell? ⟨bi, 2, none⟩ = some (.int .i64 b)) (by kernel_rfl) (by kernel_rfl) (by kernel_rfl) (by decide +kernel) HB1 ?_
    intro kne
    simp only [pickAt]
    repeat (first | ((first | (refine wpQuiet_la _ _ rfl bs1 (k * 17 + 6) rfl rfl (by decide +kernel) [.int .i64 (lz (M.at k).num 5), .int .i64 (lz (M.at k).num 6), .int .i64 (lz (M.at k).num 7), .int .i64 (lz (M.at k).num 8)] (by kernel_rfl) (fun w hC => hC.1) ?_) | (refine wpQuiet_ld _ _ rfl ⟨bi, 1, none⟩ rfl rfl (by decide +kernel) (fun w hC => hC.2.1) ?_) | (refine wpQuiet_ld _ _ rfl ⟨bi, 2, none⟩ rfl rfl (by decide +kernel) (fun w hC => hC.2.2) ?_)); simp only [Act.put, List.setIfInBounds_toArray, List.set_cons_zero, List.set_cons_succ]) | go_big_quiet_step (fail))
    refine wpQuiet_nil ?_
    clear kne HB1
    replace HS := hide HS.out.drew
    generalize World.drew _ = Wd1 at *
    refine wpRest_cons rfl rfl fun K hK => ?_
    go_big_op
    refine (hQ.out _).mono ?_
    rintro e W5 ⟨rfl, hb⟩
    replace HS := hide (HS.out.on hb)
    clear hb hQ
    refine hK _ _ (fun _ => InC.mk (HC.out _ (HS.out.get 2 rfl) (HS.out.blk 0 rfl))) ?_
    clear hK K HC
    (try simp only [Act.put, List.setIfInBounds_toArray, List.set_cons_zero, List.set_cons_succ])
    refine wpRest_move _ rfl rfl rfl ?_
    (try simp only [Act.put, List.setIfInBounds_toArray, List.set_cons_zero, List.set_cons_succ])
    refine wpRest_extract _ 0 rfl rfl rfl rfl ?_
    (try simp only [Act.put, List.setIfInBounds_toArray, List.set_cons_zero, List.set_cons_succ])
    refine wpRest_extract _ 1 rfl rfl rfl rfl ?_
    (try simp only [Act.put, List.setIfInBounds_toArray, List.set_cons_zero, List.set_cons_succ])
    refine wpRest_of (v := .pointer (some ⟨bs1, k * 17, none⟩)) rfl (fun w => rfl) ?_
    (try simp only [Act.put, List.setIfInBounds_toArray, List.set_cons_zero, List.set_cons_succ])
    refine wpRest_of (v := .pointer (some ⟨bs1, k * 17 + 6, none⟩)) rfl (fun w => rfl) ?_
    (try simp only [Act.put, List.setIfInBounds_toArray, List.set_cons_zero, List.set_cons_succ])
    refine wpRest_cons rfl rfl fun K hK => ?_
    refine stw_storeG HS 2 rfl hk1 hbs1 _ _ _ rfl _ rfl (show _ = k * 17 + 6 from by with_reducible rfl) (r0 := R 0) (r1 := R 1) (r2 := R 2) (r3 := R 3) rfl (by decide +kernel) ?_
    clear HS
    intro W6 HS
    refine hK _ _ (fun h => by cases h) (wpRest_nil ?_)
    clear hK K
    (try simp only [Act.put, List.setIfInBounds_toArray, List.set_cons_zero, List.set_cons_succ])
    refine NoPanic.normal ?_
    replace HS : Hid (St w W6 [blkI bi [.int .i64 0, .int .i64 a, .int .i64 b, .int .i64 d], blkI bo (machL A1 (M1.doR k (R 0) (R 1) (R 2) (R 3))), machI D1 A1 (M1.doR k (R 0) (R 1) (R 2) (R 3)), blkI br zeroML, blkI bm (machL A M)]) := HS
    generalize M1.doR k (R 0) (R 1) (R 2) (R 3) = N at HS eS1
    go_wp2_with (first | ((with_reducible refine isList ?_); first | (refine st_loadA HS 1 rfl _ _ rfl rfl rfl (by decide +kernel) (by kernel_rfl) ?_) | (refine st_storeA HS 3 rfl _ _ _ rfl rfl rfl _ rfl rfl (by kernel_rfl) rfl ?_; clear HS; intro W HS)))
    rw [eS1.out]
    exact bodyPost_ret (ret_mach2 Tryz.results9 (HS.out.blk 3 rfl) rfl rfl rfl) rfl (mret_of (R := (N, 0)) HS.out 2 (D := D1) (A := A1) rfl)
  · subst h0
    obtain ⟨R, eR⟩ : ∃ R, addC (regsI (lz (M.at k).num)) a b = R := ⟨_, rfl⟩
    have hQ := hide fun W => add_c (regsI (lz (M.at k).num)) a b W
    rw [eR] at hQ
    have eS1 : Hid (calcP M k = (M1.doR k (R 0) (R 1) (R 2) (R 3), 0)) := by
      show _ = _
      have e1 : calcR (M.at k) = R := by unfold calcR; rw [if_neg (by rw [ec.out]; decide), if_pos ec.out]; rw [hR.out 1, hR.out 2, ea.out, eb.out]; exact eR
      have e2 : calcTo (M.at k) = (p : Int) + 1 := by unfold calcTo; rw [if_neg (by rw [ec.out]; omega)]; exact congrArg (· + 1) hp4.out
      rw [eS.out, e1, e2, hM1.out, doN_doR hk0]
    replace eR := hide eR
    clear eS
    have HB1 : (W.drew.rangeAt bs1 (k * 17 + 6) [.int .i64 (lz (M.at k).num 5), .int .i64 (lz (M.at k).num 6), .int .i64 (lz (M.at k).num 7), .int .i64 (lz (M.at k).num 8)] ∧ W.drew.cell? ⟨bi, 1, none⟩ = some (.int .i64 a) ∧ W.drew.cell? ⟨bi, 2, none⟩ = some (.int .i64 b)) := HC.out _ (HS.out.drew.get 2 rfl) (HS.out.drew.blk 0 rfl)
    have c0 : W.cell? ⟨bi, 0, none⟩ = some (.int .i64 1) := (HS.out.blk 0 rfl).cell 0 _ rfl
    go_upto_region 11 with fail
    clear c0
    (try simp only [Act.put, List.setIfInBounds_toArray, List.set_cons_zero, List.set_cons_succ])
    refine wp_region_mask [true, true, true, true, true, true, true, true, true, false, false, false, false, false, false, false] [false, false, false, false, false, false, false, false, false, true, true, true, true, true, true, true] [0, 3, 3, 3, 3, 3, 1] (fun W' => W'.rangeAt bs1 (k * 17 + 6) [.int .i64 (lz (M.at k).num 5), .int .i64 (lz (M.at k).num 6), .int .i64 (lz (M.at k).num 7), .int .i64 (lz (M.at k).num 8)] ∧ W'.cell? ⟨bi, 1, none⟩ = some (.int .i64 a) ∧ W'.cell? ⟨bi, 2, none⟩ = some (.int .i64 b)) (by kernel_rfl) (by kernel_rfl) (by kernel_rfl) (by decide +kernel) HB1 ?_
    intro kne
    simp only [pickAt]
    repeat (first | ((first | (refine wpQuiet_la _ _ rfl bs1 (k * 17 + 6) rfl rfl (by decide +kernel) [.int .i64 (lz (M.at k).num 5), .int .i64 (lz (M.at k).num 6), .int .i64 (lz (M.at k).num 7), .int .i64 (lz (M.at k).num 8)] (by kernel_rfl) (fun w hC => hC.1) ?_) | (refine wpQuiet_ld _ _ rfl ⟨bi, 1, none⟩ rfl rfl (by decide +kernel) (fun w hC => hC.2.1) ?_) | (refine wpQuiet_ld _ _ rfl ⟨bi, 2, none⟩ rfl rfl (by decide +kernel) (fun w hC => hC.2.2) ?_)); simp only [Act.put, List.setIfInBounds_toArray, List.set_cons_zero, List.set_cons_succ]) | go_big_quiet_step (fail))
    refine wpQuiet_nil ?_
    clear kne HB1
    replace HS := hide HS.out.drew
    generalize World.drew _ = Wd1 at *
    refine wpRest_cons rfl rfl fun K hK => ?_
    go_big_op
    refine (hQ.out _).mono ?_
    rintro e W5 ⟨rfl, hb⟩
    replace HS := hide (HS.out.on hb)
    clear hb hQ
    refine hK _ _ (fun _ => InC.mk (HC.out _ (HS.out.get 2 rfl) (HS.out.blk 0 rfl))) ?_
    clear hK K HC
    (try simp only [Act.put, List.setIfInBounds_toArray, List.set_cons_zero, List.set_cons_succ])
    refine wpRest_move _ rfl rfl rfl ?_
    (try simp only [Act.put, List.setIfInBounds_toArray, List.set_cons_zero, List.set_cons_succ])
    refine wpRest_extract _ 0 rfl rfl rfl rfl ?_
    (try simp only [Act.put, List.setIfInBounds_toArray, List.set_cons_zero, List.set_cons_succ])
    refine wpRest_extract _ 1 rfl rfl rfl rfl ?_
    (try simp only [Act.put, List.setIfInBounds_toArray, List.set_cons_zero, List.set_cons_succ])
    refine wpRest_of (v := .pointer (some ⟨bs1, k * 17, none⟩)) rfl (fun w => rfl) ?_
    (try simp only [Act.put, List.setIfInBounds_toArray, List.set_cons_zero, List.set_cons_succ])
    refine wpRest_of (v := .pointer (some ⟨bs1, k * 17 + 6, none⟩)) rfl (fun w => rfl) ?_
    (try simp only [Act.put, List.setIfInBounds_toArray, List.set_cons_zero, List.set_cons_succ])
    refine wpRest_cons rfl rfl fun K hK => ?_
    refine stw_storeG HS 2 rfl hk1 hbs1 _ _ _ rfl _ rfl (show _ = k * 17 + 6 from by with_reducible rfl) (r0 := R 0) (r1 := R 1) (r2 := R 2) (r3 := R 3) rfl (by decide +kernel) ?_
    clear HS
    intro W6 HS
    refine hK _ _ (fun h => by cases h) (wpRest_nil ?_)
    clear hK K
    (try simp only [Act.put, List.setIfInBounds_toArray, List.set_cons_zero, List.set_cons_succ])
    refine NoPanic.normal ?_
    replace HS : Hid (St w W6 [blkI bi [.int .i64 1, .int .i64 a, .int .i64 b, .int .i64 d], blkI bo (machL A1 (M1.doR k (R 0) (R 1) (R 2) (R 3))), machI D1 A1 (M1.doR k (R 0) (R 1) (R 2) (R 3)), blkI br zeroML, blkI bm (machL A M)]) := HS
    generalize M1.doR k (R 0) (R 1) (R 2) (R 3) = N at HS eS1
    go_wp2_with (first | ((with_reducible refine isList ?_); first | (refine st_loadA HS 1 rfl _ _ rfl rfl rfl (by decide +kernel) (by kernel_rfl) ?_) | (refine st_storeA HS 3 rfl _ _ _ rfl rfl rfl _ rfl rfl (by kernel_rfl) rfl ?_; clear HS; intro W HS)))
    rw [eS1.out]
    exact bodyPost_ret (ret_mach2 Tryz.results9 (HS.out.blk 3 rfl) rfl rfl rfl) rfl (mret_of (R := (N, 0)) HS.out 2 (D := D1) (A := A1) rfl)
  · subst h0
    obtain ⟨a', ea', ha4⟩ := hreg.out rfl
    subst ea'
    have i3 : (a' : Int) < 4 := by omega
    obtain ⟨v, hv⟩ : ∃ v, v = lz (M.at k).num (5 + a') := ⟨_, rfl⟩
    have cv : W.cell? ⟨bs1, k * 17 + 6 + a', none⟩ = some (.int .i64 v) := by
      rw [hv]
      have h := (HC.out _ (HS.out.get 2 rfl) (HS.out.blk 0 rfl)).1
      refine h a' _ ?_
      have : a' = 0 ∨ a' = 1 ∨ a' = 2 ∨ a' = 3 := by omega
      rcases this with rfl | rfl | rfl | rfl <;> rfl
    have c0 : W.cell? ⟨bi, 0, none⟩ = some (.int .i64 4) := (HS.out.blk 0 rfl).cell 0 _ rfl
    have c1 : W.cell? ⟨bi, 1, none⟩ = some (.int .i64 a') := (HS.out.blk 0 rfl).cell 1 _ rfl
    have e1 : calcR (M.at k) = regsI (lz (M.at k).num) := by unfold calcR; rw [if_neg (by rw [ec.out]; decide), if_neg (by rw [ec.out]; decide)]
    have hre : (M.at k).reg ((M.at k).ins 1).toNat = v := by rw [hR.out 1, ea.out, Int.toNat_natCast, hv]; rfl
    rw [e1, doR_same hk0 h14.out] at eS
    clear e1 HC
    by_cases hz : v = 0
    · have eS1 : Hid (calcP M k = (M1.doN k 4 b, 0)) := by
        show _ = _
        have e2 : calcTo (M.at k) = b := by unfold calcTo; rw [if_pos ⟨ec.out, hre.trans hz⟩, hR.out 2, eb.out]
        rw [eS.out, e2, hM1.out, doN_doN hk0]
      clear eS hre
      replace hv := hide hv
      subst hz
      go_upto_region 13 with fail
      go_big_quiet (fail)
      clear c0 c1 cv
      replace HS := hide (HS.out.drawn nq)
      generalize World.drewN _ _ = Wd1 at *
      go_upto_region 15 with (first | ((with_reducible refine isList ?_); first | (refine st_load1 HS 0 rfl _ _ rfl _ rfl rfl (by decide +kernel) rfl ?_) | (refine st_storeN HS 2 rfl hk1 hbs1 4 (by decide) _ _ _ rfl _ rfl (show _ = k * 17 + 5 from by with_reducible rfl) rfl rfl (by decide +kernel) ?_; clear HS; intro W HS)))
      replace HS : Hid (St w W [blkI bi [.int .i64 4, .int .i64 a', .int .i64 b, .int .i64 d], blkI bo (machL A1 (M1.doN k 4 b)), machI D1 A1 (M1.doN k 4 b), blkI br zeroML, blkI bm (machL A M)]) := HS
      generalize M1.doN k 4 b = N at HS eS1
      go_wp2_with (first | ((with_reducible refine isList ?_); first | (refine st_loadA HS 1 rfl _ _ rfl rfl rfl (by decide +kernel) (by kernel_rfl) ?_) | (refine st_storeA HS 3 rfl _ _ _ rfl rfl rfl _ rfl rfl (by kernel_rfl) rfl ?_; clear HS; intro W HS)))
      rw [eS1.out]
      exact bodyPost_ret (ret_mach2 Tryz.results9 (HS.out.blk 3 rfl) rfl rfl rfl) rfl (mret_of (R := (N, 0)) HS.out 2 (D := D1) (A := A1) rfl)
    · have eS1 : Hid (calcP M k = (M1, 0)) := by
        show _ = _
        have e2 : calcTo (M.at k) = (p : Int) + 1 := by unfold calcTo; rw [if_neg (fun h => hz (hre.symm.trans h.2))]; exact congrArg (· + 1) hp4.out
        rw [eS.out, e2, hM1.out]
      clear eS hre
      replace hv := hide hv
      have hzb : (v == 0) = false := by simpa using hz
      go_upto_region 13 with fail
      go_big_quiet (fail)
      clear c0 c1 cv
      replace HS := hide (HS.out.drawn nq)
      generalize World.drewN _ _ = Wd1 at *
      go_wp2_with (first | ((with_reducible refine isList ?_); first | (refine st_loadA HS 1 rfl _ _ rfl rfl rfl (by decide +kernel) (by kernel_rfl) ?_) | (refine st_storeA HS 3 rfl _ _ _ rfl rfl rfl _ rfl rfl (by kernel_rfl) rfl ?_; clear HS; intro W HS)))
      rw [eS1.out]
      exact bodyPost_ret (ret_mach2 Tryz.results9 (HS.out.blk 3 rfl) rfl rfl rfl) rfl (mret_of (R := (M1, 0)) HS.out 2 (D := D1) (A := A1) rfl)
end Go.Proofs.YtnjognmnbpcaaaaGreat
