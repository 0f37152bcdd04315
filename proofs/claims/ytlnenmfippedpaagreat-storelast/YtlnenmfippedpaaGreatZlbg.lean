/-
  The law StoreLast: one store after another, of one word. Nothing of a walk here.
-/
import Derived.Test.YtlnenmfippedpaaGreatZlbb
import Derived.Test.YtlnenmfippedpaaGreatZlai
namespace Go.Proofs.YtlnenmfippedpaaGreat
open Go.RowKit
set_option linter.unusedSimpArgs false
set_option linter.unusedVariables false
/-- So many writes of word 0 of level 0, out of one register after another. -/
def lastL : Nat → List Int
  | 0 => []
  | k + 1 => lastL k ++ [3, ((k % 4 : Nat) : Int), 0, 0]
theorem lastL_len : ∀ k, (lastL k).length = k * 4
  | 0 => rfl
  | k + 1 => by
    rw [lastL, List.length_append, lastL_len k]
    show k * 4 + 4 = _
    omega
theorem lastL_at : ∀ {k j : Nat}, j < k → lz (lastL k) (j * 4) = 3 ∧ lz (lastL k) (j * 4 + 1) = ((j % 4 : Nat) : Int) ∧ lz (lastL k) (j * 4 + 2) = 0 ∧ lz (lastL k) (j * 4 + 3) = 0
  | k + 1, j, h => by
    have hl := lastL_len k
    rw [lastL]
    by_cases e : j < k
    · rw [lz_left (by omega), lz_left (by omega), lz_left (by omega), lz_left (by omega)]
      exact lastL_at e
    · obtain rfl : j = k := by omega
      rw [lz_right (by omega), lz_right (by omega), lz_right (by omega), lz_right (by omega), hl, show j * 4 - j * 4 = 0 by omega, show j * 4 + 1 - j * 4 = 1 by omega, show j * 4 + 2 - j * 4 = 2 by omega, show j * 4 + 3 - j * 4 = 3 by omega]
      exact ⟨rfl, rfl, rfl, rfl⟩
/-- Behind j stores, v the last value. -/
structure LastI (k : Nat) (M : PMach) (j : Nat) (v : Int) : Prop where
  here : hereP M 0 = true
  two : M.sess.length = 2
  prog : (M.at 0).prog = lastL k
  step : lz (M.at 0).num 3 = 0
  pc : lz (M.at 0).num 4 = j
  n14 : (M.at 0).num.length = 14
  writes : (M.at 0).writes = if j = 0 then [] else [0, 0, v]
  trace : M.trace.length = j * 4
def lastM (k : Nat) : PMach := begunM.setS 0 ((begunM.at 0).setL 0 (lastL k))
theorem last_begin {k : Nat} (hk : k ≤ 8) : LastI k (lastM k) 0 0 := by
  have h2 : 0 < begunM.sess.length := by decide +kernel
  have e : (lastM k).at 0 = (begunM.at 0).setL 0 (lastL k) := PMach.at_setS h2
  refine ⟨?_, ?_, by rw [e]; rfl, ?_, ?_, ?_, ?_, ?_⟩
  · have : k = 0 ∨ k = 1 ∨ k = 2 ∨ k = 3 ∨ k = 4 ∨ k = 5 ∨ k = 6 ∨ k = 7 ∨ k = 8 := by omega
    rcases this with rfl | rfl | rfl | rfl | rfl | rfl | rfl | rfl | rfl <;> decide +kernel
  · show (begunM.setS 0 _).sess.length = 2
    rw [PMach.len_setS]
    decide +kernel
  · rw [e]
    show lz (begunM.at 0).num 3 = 0
    decide +kernel
  · rw [e]
    show lz (begunM.at 0).num 4 = 0
    decide +kernel
  · rw [e]
    show (begunM.at 0).num.length = 14
    decide +kernel
  · rw [e, if_pos rfl]
    show (begunM.at 0).writes = []
    decide +kernel
  · show begunM.trace.length = 0
    decide +kernel
theorem sess_reg {s : Nat → Sl} {x : PSess} (h : SessOk s x) (h14 : x.num.length = 14) {a : Nat} {v : Int} (ha : a < 4) (hv : 0 ≤ v ∧ v ≤ 255) : sessMayP s (x.setN (5 + a) v) = true := by
  have e : ∀ c, c ≠ 5 + a → lz (x.setN (5 + a) v).num c = lz x.num c := fun c h2 => by rw [setN_lz (by omega), if_neg h2]
  have hr : allUp (regsI (lz (x.setN (5 + a) v).num)) 255 4 = true := allUp_mk fun c hc => by
    unfold regsI
    by_cases hca : c = a
    · subst hca
      rw [setN_lz (by omega), if_pos rfl]
      exact upToV_of hv.1 hv.2
    · rw [e (5 + c) (by omega)]
      exact upToV_of (h.reg hc).1 (h.reg hc).2
  have hpn : (x.setN (5 + a) v).pn = x.pn := rfl
  have hrn : (x.setN (5 + a) v).rn = x.rn := rfl
  have htn : (x.setN (5 + a) v).tn = x.tn := rfl
  have hp : (x.setN (5 + a) v).prog = x.prog := rfl
  have hrd : (x.setN (5 + a) v).reads = x.reads := rfl
  have hwr : (x.setN (5 + a) v).writes = x.writes := rfl
  unfold sessMayP sessMay wordsThere
  rw [hpn, hrn, htn, hp, hrd, hwr, e 0 (by omega), e 1 (by omega), e 2 (by omega), h.start, h.prog, h.writesT, h.readsT, e 3 (by omega), upToV_of h.step.1 h.step.2, e 4 (by omega), upToV_of h.pc.1 h.pc.2, hr, h.reads, h.writes, e 9 (by omega), upToV_of h.at_.1 h.at_.2, e 10 (by omega), upToV_of h.stamp.1 h.stamp.2, e 11 (by omega), upToV_of h.tries.1 h.tries.2, e 12 (by omega), upToV_of h.result.1 h.result.2, e 13 (by omega), upToV_of h.told.1 h.told.2]
  rfl
/-- A machine that may be, with another value in a register, may be. -/
theorem reg_here {M : PMach} {k a : Nat} {v : Int} (h : hereP M k = true) (h14 : (M.at k).num.length = 14) (ha : a < 4) (hv : 0 ≤ v ∧ v ≤ 255) : hereP (M.doN k (5 + a) v) k = true := by
  obtain ⟨hm, k', ek, hk⟩ := hereP_yes h
  obtain rfl : k = k' := by omega
  have hl : (M.doN k (5 + a) v).sess.length = M.sess.length := by unfold PMach.doN; rw [PMach.len_setS]
  have hm2 : machMay (M.doN k (5 + a) v) = true :=
    machMay_turn hm hk (fun g hg => rfl) (machMay_parts hm).1 rfl rfl rfl hl (fun j hj => by unfold PMach.doN; rw [PMach.at_ne hj]) (by rw [at_doN hk, setN_lz (by omega), if_neg (by omega)]) (by rw [at_doN hk]; exact sess_reg (here_sess hm hk) h14 ha hv)
  unfold hereP
  rw [hm2, hl, decide_eq_true (by omega : (0 : Int) ≤ k), decide_eq_true (by omega : (k : Int) < (M.sess.length : Int))]
  rfl
theorem withW_none {x : PSess} {v : Int} (h : x.writes = []) (hv : 0 ≤ v ∧ v ≤ 255) : x.withW 0 0 v = [0, 0, v] := by
  have htn : x.tn = 0 := by unfold PSess.tn; rw [h]; rfl
  have hok : withWOk 0 (lz []) 0 0 v = true := withWOk_mk (by decide) (writeMay_of ⟨⟨by decide, by decide⟩, ⟨by decide, by decide⟩, hv⟩)
  have hp : posW 0 (lz []) 0 0 = 0 := by have := posW_le 0 (lz []) 0 0; omega
  have hn : withWN 0 (lz []) 0 0 v = 1 := by rw [withWN_yes hok, hp]; omega
  unfold PSess.withW
  rw [h, htn, hn]
  unfold withWZ
  rw [hp]
  obtain ⟨e0, e1, e2⟩ := insW_at 0 (toW 0 (lz []) 0 0) (lz []) 0 0 v
  show [_, _, _] = _
  rw [e0, e1, e2]
theorem withW_one {x : PSess} {u v : Int} (h : x.writes = [0, 0, u]) (hu : 0 ≤ u ∧ u ≤ 255) (hv : 0 ≤ v ∧ v ≤ 255) : x.withW 0 0 v = [0, 0, v] := by
  have htn : x.tn = 1 := by unfold PSess.tn; rw [h]; simp
  have H : Wr 1 (lz [0, 0, u]) := ⟨fun k hk => (by obtain rfl : k = 0 := by omega
                                                   exact ⟨⟨Int.le_refl _, show (0 : Int) ≤ 3 by decide⟩, ⟨Int.le_refl _, show (0 : Int) ≤ 3 by decide⟩, hu⟩), fun j k hjk hk => absurd hk (by omega), by decide⟩
  have hok : withWOk 1 (lz [0, 0, u]) 0 0 v = true := withWOk_mk H.may (writeMay_of ⟨⟨by decide, by decide⟩, ⟨by decide, by decide⟩, hv⟩)
  have hp : posW 1 (lz [0, 0, u]) 0 0 = 0 := H.pos (k := 0) (by decide) ⟨rfl, rfl⟩
  have hh : hasW 1 (lz [0, 0, u]) 0 0 = true := hasW_iff.2 ⟨0, by decide, rfl, rfl⟩
  have ht : toW 1 (lz [0, 0, u]) 0 0 = 1 := by unfold toW; rw [hh, hp]; rfl
  have hn : withWN 1 (lz [0, 0, u]) 0 0 v = 1 := by rw [withWN_yes hok, hp, ht]
  unfold PSess.withW
  rw [h, htn, hn]
  unfold withWZ
  rw [hp]
  obtain ⟨e0, e1, e2⟩ := insW_at 0 (toW 1 (lz [0, 0, u]) 0 0) (lz [0, 0, u]) 0 0 v
  show [_, _, _] = _
  rw [e0, e1, e2]
theorem last_step {A : MacM} {M : PMach} {w : World} {k j : Nat} {v u : Int} (h : LastI k M j v) (hv : 0 ≤ v ∧ v ≤ 255) (hj : j < k) (hk : k ≤ 8) (hu : 0 ≤ u ∧ u ≤ 255) (hA : MachIs w A (M.doN 0 (5 + j % 4) u)) :
    ∃ N, storeP (M.doN 0 (5 + j % 4) u) 0 = (N, 0) ∧ LastI k N (j + 1) u := by
  have l0 : 0 < M.sess.length := by have := h.two; omega
  have eat : (M.doN 0 (5 + j % 4) u).at 0 = (M.at 0).setN (5 + j % 4) u := at_doN l0
  have hh : hereP (M.doN 0 (5 + j % 4) u) ((0 : Nat) : Int) = true := reg_here h.here h.n14 (Nat.mod_lt _ (by decide)) hu
  have enum : ∀ c, c ≠ 5 + j % 4 → lz ((M.doN 0 (5 + j % 4) u).at 0).num c = lz (M.at 0).num c := fun c hc => by rw [eat, setN_lz (by rw [h.n14]; omega), if_neg hc]
  have epc : ((M.doN 0 (5 + j % 4) u).at 0).pc = j := by unfold PSess.pc; rw [enum 4 (by omega), h.pc]
  have epr : ((M.doN 0 (5 + j % 4) u).at 0).prog = lastL k := by rw [eat]; exact h.prog
  have hins : ∀ c, ((M.doN 0 (5 + j % 4) u).at 0).ins c = lz (lastL k) (j * 4 + c) := fun c => by unfold PSess.ins; rw [epr, epc, Int.toNat_natCast]
  obtain ⟨i0, i1, i2, i3⟩ := lastL_at hj
  have hr : runP ((M.doN 0 (5 + j % 4) u).at 0) = 3 := by
    have hrun : ((M.doN 0 (5 + j % 4) u).at 0).runs = true := by
      have es : ((M.doN 0 (5 + j % 4) u).at 0).step = 0 := by unfold PSess.step; rw [enum 3 (by omega), h.step]
      unfold PSess.runs
      rw [epc, epr, lastL_len, es, Nat.mul_div_cancel _ (by decide)]
      simp only [Bool.and_eq_true, decide_eq_true_eq]
      refine ⟨trivial, ?_⟩
      omega
    unfold runP
    rw [hrun, hins]
    exact i0
  have e := storeP_ok hh hr
  obtain ⟨k', ek, _, _, _, hS⟩ := stored_of hA (i := ((0 : Nat) : Int)) (N := (storeP (M.doN 0 (5 + j % 4) u) ((0 : Nat) : Int)).1) (by rw [e])
  obtain rfl : k' = 0 := by omega
  refine ⟨(storeP (M.doN 0 (5 + j % 4) u) ((0 : Nat) : Int)).1, ?_, ?_⟩
  · show storeP _ ((0 : Nat) : Int) = _
    rw [e]
  have hreg : ((M.doN 0 (5 + j % 4) u).at 0).reg (((M.doN 0 (5 + j % 4) u).at 0).ins 1).toNat = u := by
    rw [hins, i1, Int.toNat_natCast]
    unfold PSess.reg
    rw [eat, setN_lz (by rw [h.n14]; omega), if_pos rfl]
  have hwr : (((storeP (M.doN 0 (5 + j % 4) u) ((0 : Nat) : Int)).1).at 0).writes = [0, 0, u] := by
    rw [hS.writes, hreg, hins, hins, i2, i3]
    have ew : ((M.doN 0 (5 + j % 4) u).at 0).writes = (M.at 0).writes := by rw [eat]; rfl
    have hw := h.writes
    by_cases h0 : j = 0
    · rw [if_pos h0] at hw
      exact withW_none (by rw [ew, hw]) hu
    · rw [if_neg h0] at hw
      exact withW_one (by rw [ew, hw]) hv hu
  refine ⟨hS.here, by rw [hS.len]; unfold PMach.doN; rw [PMach.len_setS]; exact h.two, by rw [hS.prog]; exact epr, by rw [hS.num 3 (by decide), enum 3 (by omega)]; exact h.step, ?_, hS.n14, by rw [hwr, if_neg (by omega)], ?_⟩
  · rw [hS.pc, enum 4 (by omega), h.pc]
    omega
  · rw [e]
    show (tellP _ 0 1 _).trace.length = _
    unfold tellP
    have ht : ∀ X : PMach, X.trace = M.trace → (if X.trace.length / 4 < 512 then { X with trace := X.trace ++ [lz (X.at 0).num 0, lz (X.at 0).num 1, 1, ((M.doN 0 (5 + j % 4) u).at 0).reg (((M.doN 0 (5 + j % 4) u).at 0).ins 1).toNat] } else X).trace.length = (j + 1) * 4 := fun X hX => by
      have := h.trace
      rw [if_pos (by rw [hX]; omega)]
      show (X.trace ++ _).length = _
      rw [List.length_append, hX, this]
      show j * 4 + 4 = _
      omega
    exact ht _ rfl
end Go.Proofs.YtlnenmfippedpaaGreat
