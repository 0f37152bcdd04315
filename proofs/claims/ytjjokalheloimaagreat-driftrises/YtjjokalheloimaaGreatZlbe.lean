/-
  What Drift turns; the machine behind it may be.
-/
import Derived.Test.YtjjokalheloimaaGreatZhDriftProg
import Derived.Test.YtjjokalheloimaaGreatZlbb
namespace Go.Proofs.YtjjokalheloimaaGreat
open Go.RowKit
set_option linter.unusedSimpArgs false
set_option linter.unusedVariables false
theorem needs_out {M : PMach} {i : Int} (h : hereP M i = false) : needsP M i = (false, 1400) := by
  unfold needsP
  rw [h, Bool.false_and]
  rfl
theorem drift_out {M : PMach} {i : Int} (h : needsP M i = (false, 1400)) : driftP M i = (noMach, 1400) := by
  unfold driftP
  rw [h, Bool.and_false]
  rfl
theorem sess_label {s : Nat → Sl} {x : PSess} (h : SessOk s x) (h14 : x.num.length = 14) {j : Int} (hj : belowV j (lz x.num 2) = true) : sessMayP s (x.setN 1 j) = true := by
  have e : ∀ c, c ≠ 1 → lz (x.setN 1 j).num c = lz x.num c := fun c hc => by rw [setN_lz (by omega), if_neg hc]
  have e1 : lz (x.setN 1 j).num 1 = j := by rw [setN_lz (by omega), if_pos rfl]
  have hst : startMay (lz x.num 0) j (lz x.num 2) x.pn (lz x.prog) = true := by
    have := h.start
    unfold startMay at this ⊢
    simp only [Bool.and_eq_true] at this ⊢
    exact ⟨this.1, hj, this.2.2⟩
  have hr : regsI (lz (x.setN 1 j).num) = regsI (lz x.num) := by funext c; exact e (5 + c) (by omega)
  have hpn : (x.setN 1 j).pn = x.pn := rfl
  have hrn : (x.setN 1 j).rn = x.rn := rfl
  have htn : (x.setN 1 j).tn = x.tn := rfl
  have hp : (x.setN 1 j).prog = x.prog := rfl
  have hrd : (x.setN 1 j).reads = x.reads := rfl
  have hwr : (x.setN 1 j).writes = x.writes := rfl
  unfold sessMayP sessMay wordsThere
  rw [hpn, hrn, htn, hp, hrd, hwr, e 0 (by decide), e1, e 2 (by decide), hst, h.prog, h.writesT, h.readsT, e 3 (by decide), upToV_of h.step.1 h.step.2, e 4 (by decide), upToV_of h.pc.1 h.pc.2, hr, h.regs, h.reads, h.writes, e 9 (by decide), upToV_of h.at_.1 h.at_.2, e 10 (by decide), upToV_of h.stamp.1 h.stamp.2, e 11 (by decide), upToV_of h.tries.1 h.tries.2, e 12 (by decide), upToV_of h.result.1 h.result.2, e 13 (by decide), upToV_of h.told.1 h.told.2]
  rfl
/-- Four labels: the join of one with a level that is not below it, within a third. -/
theorem join_up {l g c : Int} (hl : upToV l 3 = true) (hg : upToV g 3 = true) (hc : upToV c 3 = true) (h1 : underV g l = false) (h2 : underV (bits .or .i64 l g) c = true) :
    bits .or .i64 l g ≠ l ∧ bits .or .i64 (bits .or .i64 l g) l = bits .or .i64 l g ∧ bits .or .i64 (bits .or .i64 l g) c = c ∧ underV g (bits .or .i64 l g) = true ∧ belowV (bits .or .i64 l g) c = true := by
  obtain ⟨a, rfl, ha⟩ := upToV_nat (m := 3) hl
  obtain ⟨b, rfl, hb⟩ := upToV_nat (m := 3) hg
  obtain ⟨d, rfl, hd⟩ := upToV_nat (m := 3) hc
  have ea : a = 0 ∨ a = 1 ∨ a = 2 ∨ a = 3 := by omega
  have eb : b = 0 ∨ b = 1 ∨ b = 2 ∨ b = 3 := by omega
  have ed : d = 0 ∨ d = 1 ∨ d = 2 ∨ d = 3 := by omega
  revert h1 h2
  rcases ea with rfl | rfl | rfl | rfl <;> rcases eb with rfl | rfl | rfl | rfl <;> rcases ed with rfl | rfl | rfl | rfl <;> decide +kernel
/-- What a machine is behind a drift that raised the label. -/
structure Rose (M N : PMach) (k : Nat) : Prop where
  words : N.words = M.words
  clocks : N.clocks = M.clocks
  len : N.sess.length = M.sess.length
  num : ∀ c, c ≠ 1 → lz (N.at k).num c = lz (M.at k).num c
  reads : (N.at k).reads = (M.at k).reads
  step : lz (M.at k).num 3 = 0
  needs : needsP N k = (false, 0)
  new : lz (N.at k).num 1 ≠ lz (M.at k).num 1
  up : bits .or .i64 (lz (N.at k).num 1) (lz (M.at k).num 1) = lz (N.at k).num 1
  clear : bits .or .i64 (lz (N.at k).num 1) (lz (M.at k).num 2) = lz (M.at k).num 2
theorem drift_cases {A : MacM} {M : PMach} {w : World} (h : MachIs w A M) (i : Int) :
    driftP M i = (noMach, 1400) ∨ ∃ k : Nat, i = k ∧ k < M.sess.length ∧ ((∃ N, driftP M i = (N, 0) ∧ Rose M N k) ∨ driftP M i = (endR M k 4 0, 0)) := by
  cases hn : (needsP M i).1
  · left
    unfold driftP
    rw [hn, Bool.and_false]
    rfl
  by_cases he : (needsP M i).2 = 0
  case neg =>
    left
    unfold driftP
    rw [decide_eq_false he]
    rfl
  right
  obtain ⟨hh, hr⟩ := needsP_here he
  obtain ⟨hmay, k, rfl, hk0⟩ := hereP_yes hh
  rw [Int.toNat_natCast] at hr
  refine ⟨k, rfl, hk0, ?_⟩
  have hk : k < A.s.n := by have := h.sess.1; omega
  have h14 : (M.at k).num.length = 14 := (h.sess.2.2.2 k hk).1
  have hok := here_sess hmay hk0
  obtain ⟨h3, hpc, hin⟩ := runP_yes hr (by decide)
  obtain ⟨p, hI⟩ := ins_at h hk hok hr (by decide)
  obtain ⟨x, y, u, _, ⟨hb2, hb3⟩, _⟩ := hI.word (.inl (hI.code hr (by decide)))
  have hg : upToV ((M.at k).ins 2) 3 = true := by rw [hI.ins 2, hb2]; exact upToV_of (by omega) (by omega)
  have eD : driftP M k = bif underV (driftL (M.at k)) (lz (M.at k).num 2) then ((tellP M k 2 (driftL (M.at k))).doN k 1 (driftL (M.at k)), 0) else endP M k 4 0 := by
    unfold driftP; rw [hn, decide_eq_true he, Int.toNat_natCast]; rfl
  rw [eD]
  cases hu : underV (driftL (M.at k)) (lz (M.at k).num 2)
  · right
    show endP M k 4 0 = _
    rw [endP_ok hh rfl rfl]
  left
  have hn2 : underV ((M.at k).ins 2) (lz (M.at k).num 1) = false := by
    have e : needsP M k = (!underV ((M.at k).ins 2) (lz (M.at k).num 1), 0) := by
      unfold needsP; rw [hh, Int.toNat_natCast, decide_eq_true hr]; rfl
    rw [e] at hn
    cases hx : underV ((M.at k).ins 2) (lz (M.at k).num 1)
    · rfl
    · rw [hx] at hn; cases hn
  obtain ⟨j1, j2, j3, j4, j5⟩ := join_up hok.label hg hok.clear hn2 hu
  have eJ : driftL (M.at k) = bits .or .i64 (lz (M.at k).num 1) ((M.at k).ins 2) := rfl
  rw [← eJ] at j1 j2 j3 j4 j5
  generalize driftL (M.at k) = j at *
  refine ⟨_, rfl, ?_⟩
  have hT : M.trace.length % 4 = 0 := by have := h.trace.1; omega
  have hmT := tell_may (c := 2) (v := j) hmay hk0 hT
  have eTs : (tellP M k 2 j).sess = M.sess := tellP_sess M k 2 j
  have eTa : (tellP M k 2 j).at k = M.at k := by unfold PMach.at; rw [eTs]
  have hkT : k < (tellP M k 2 j).sess.length := by rw [eTs]; exact hk0
  have eNa : ((tellP M k 2 j).doN k 1 j).at k = (M.at k).setN 1 j := by unfold PMach.doN; rw [PMach.at_setS hkT, eTa]
  have eW : (tellP M k 2 j).words = M.words := tellP_words M k 2 j
  have eC : (tellP M k 2 j).clocks = M.clocks := tellP_clocks M k 2 j
  have eLens : ∀ X : PMach, X.words = M.words → X.lens = M.lens := fun X e => by funext g; unfold PMach.lens PMach.lv; rw [e]
  have l1 : lz ((M.at k).setN 1 j).num 1 = j := by rw [setN_lz (by omega), if_pos rfl]
  have ln : ∀ c, c ≠ 1 → lz ((M.at k).setN 1 j).num c = lz (M.at k).num c := fun c hc => by rw [setN_lz (by omega), if_neg hc]
  have hmN : machMay ((tellP M k 2 j).doN k 1 j) = true := by
    refine machMay_turn hmT hkT (fun g hg => rfl) (machMay_parts hmT).1 rfl rfl rfl (PMach.len_setS _ _ _) (fun q hq => PMach.at_ne hq) ?_ ?_
    · rw [eNa, eTa, ln 0 (by decide)]
    · rw [eNa, eLens _ eW]
      exact sess_label hok h14 j5
  have hhN : hereP ((tellP M k 2 j).doN k 1 j) k = true := by
    unfold hereP
    rw [hmN, decide_eq_true (by omega : (0 : Int) ≤ k), show ((tellP M k 2 j).doN k 1 j).sess.length = M.sess.length from (PMach.len_setS _ _ _).trans (by rw [eTs]), decide_eq_true (by omega : (k : Int) < (M.sess.length : Int))]
    rfl
  have hrN : runP ((M.at k).setN 1 j) = 2 := by
    have e3 : ((M.at k).setN 1 j).step = (M.at k).step := ln 3 (by decide)
    have e4 : ((M.at k).setN 1 j).pc = (M.at k).pc := ln 4 (by decide)
    rw [← hr]
    unfold runP PSess.runs PSess.ins
    rw [e3, e4]
    rfl
  have hiN : ((M.at k).setN 1 j).ins 2 = (M.at k).ins 2 := by
    have e4 : ((M.at k).setN 1 j).pc = (M.at k).pc := ln 4 (by decide)
    unfold PSess.ins
    rw [e4]
    rfl
  refine ⟨eW, eC, (PMach.len_setS _ _ _).trans (by rw [eTs]), fun c hc => by rw [eNa]; exact ln c hc, by rw [eNa]; rfl, h3, ?_, by rw [eNa, l1]; exact j1, by rw [eNa, l1]; exact j2, by rw [eNa, l1]; exact j3⟩
  unfold needsP
  rw [hhN, Int.toNat_natCast, eNa, decide_eq_true hrN, hiN, l1, j4]
  rfl
theorem sameArena_may (A B : MacM) (M N : PMach) (w : World) (h : MachIs w A M) (h' : MachIs w B N) :
    ∃ b, (Calls Tryz.prog 43 #[arenaA A.w, arenaA B.w] w fun e w' => e = .returned (.bool b) ∧ Below w.heap.size w w') ∧ (M.words = N.words → b = true) := by
  refine ⟨_, sameArena_any A.w B.w M.wz N.wz w h.short h.arn h'.arn, fun e => ?_⟩
  have el : ∀ g, M.lv g = N.lv g := fun g => by unfold PMach.lv; rw [e]
  have hls : ∀ g, g < 4 → (A.w g).n = (B.w g).n := fun g hg => by
    rw [h.lens g hg, h'.lens g hg]
    show (M.lv g).length / 3 = (N.lv g).length / 3
    rw [el]
  have hz : M.wz = N.wz := by funext g; unfold PMach.wz; rw [el]
  rw [hz]
  exact sameLv_mk fun g hg => ⟨hls g hg, fun _ _ => rfl⟩
theorem sameReads_yes (q q' : SesM) (x x' : PSess) (W : World) (h : SessIs W q x) (h' : SessIs W q' x') (e : x'.reads = x.reads) :
    Calls Tryz.prog 49 #[.slice q.r.a q.r.n q.r.c, .slice q'.r.a q'.r.n q'.r.c] W fun e w' => e = .returned (.bool true) ∧ ∃ q, w' = W.drewN q := by
  obtain ⟨_, _, r1, _⟩ := h
  obtain ⟨_, _, r2, _⟩ := h'
  rw [e] at r2
  have er : q'.r.n = q.r.n := (r2.len (by decide)).symm.trans (r1.len (by decide))
  have R2 := r2.2.2
  rw [er] at R2 ⊢
  have := sameReads_any q.r.a q'.r.a q.r.n q.r.c q.r.n q'.r.c (lz x.reads) (lz x.reads) W (by have := r1.2.1.1; omega) r1.2.2 R2
  rw [show (decide (q.r.n = q.r.n) && eqTo (lz x.reads) (lz x.reads) (q.r.n * 3)) = true from by rw [decide_eq_true rfl, eqTo_mk fun _ _ => rfl]; rfl] at this
  exact this
end Go.Proofs.YtjjokalheloimaaGreat
