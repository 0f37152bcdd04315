/-
  Several small texts in one: RunningRef, MayGet, NeedsRef, InsMay, EndRef, DriftRef, LeftRef, AnewLists, HalfStore, AnewMach.
-/
import Derived.Test.YtnjognmnbpcaaaaGreatZhUndoRef
import Derived.Test.YtnjognmnbpcaaaaGreatZlab
import Derived.Test.YtnjognmnbpcaaaaGreatZlad
import Derived.Test.YtnjognmnbpcaaaaGreatZlag
import Derived.Test.YtnjognmnbpcaaaaGreatZlae
import Derived.BigQuiet
import Derived.Test.YtnjognmnbpcaaaaGreatZlac
import Derived.Test.YtnjognmnbpcaaaaGreatZlai
namespace Go.Proofs.YtnjognmnbpcaaaaGreat
open Go.RowKit
set_option linter.unusedSimpArgs false
set_option linter.unusedVariables false
def PSess.step (x : PSess) : Int := lz x.num 3
def PSess.pc (x : PSess) : Int := lz x.num 4
/-- A number of the instruction that stands there. -/
def PSess.ins (x : PSess) (c : Nat) : Int := lz x.prog (x.pc.toNat * 4 + c)
/-- Does it run, and is not at its end? -/
def PSess.runs (x : PSess) : Bool := decide (x.step = 0) && decide (x.pc < (x.prog.length / 4 : Nat))
def runP (x : PSess) : Int := bif x.runs then x.ins 0 else -1
set_option maxRecDepth 100000 in
set_option maxHeartbeats 2000000 in
theorem rrunning_any (A : MacM) (M : PMach) (k : Nat) (w : World) (h : MachIs w A M) (hk : k < A.s.n) (hp0 : 0 ≤ (M.at k).pc) :
    Calls Tryz.prog 25 #[machA A M, .int .i64 k] w fun e w' => e = .returned (.int .i64 (runP (M.at k))) ∧ Below w.heap.size w w' := by
  have hsess := hide (h.sess.2.2.2 k hk)
  obtain ⟨p, hp⟩ : ∃ p : Nat, lz (M.at k).num 4 = p := ⟨(M.at k).pc.toNat, (Int.toNat_of_nonneg hp0).symm⟩
  have hpp : (M.at k).pc = p := hp
  have hlen : (M.at k).prog.length / 4 = (A.q k).p.n := by
    have h1 : (M.at k).prog.length = (A.q k).p.n * 4 := (h.sess.2.2.2 k hk).2.1.1
    rw [h1, Nat.mul_div_cancel _ (by decide)]
  have i0 : (k : Int) < (A.s.n : Int) := by omega
  have hins := hide fun (hlt : p < (A.q k).p.n) (W : World) (hb : Below w.heap.size w W) => ((h.below hb).sess.2.2.2 k hk).2.1.2.2 (p * 4) (by omega)
  have hrng := hide fun (W : World) (hb : Below w.heap.size w W) => (h.below hb).sess.range hk
  clear hsess hp0
  have hR : Hid (∀ r : Int, r = runP (M.at k) ↔ r = bif (decide (lz (M.at k).num 3 = 0) && decide (p < (A.q k).p.n)) then lz (M.at k).prog (p * 4) else -1) := fun r => by
    unfold runP PSess.runs PSess.ins PSess.step
    rw [hpp, hlen]
    simp only [Int.toNat_natCast, Nat.add_zero, Int.ofNat_lt]
  clear hpp hlen
  obtain ⟨V0, hV0⟩ : ∃ V0, V0 = machA A M := ⟨_, rfl⟩
  rw [← hV0]
  have HV : Hid (V0.cells = (machL A M).toArray) := by rw [hV0]; rfl
  clear hV0
  have HM := hide h
  have HS := hide (St.refl w)
  clear h
  go_enter Tryz.func25, Tryz.ntmps25
  go_upto_region 1 with (first | ((with_reducible refine isList ?_); first | (refine st_box HS _ _ rfl rfl (machL A M) HV.out ?_; clear HS; intro W bm HS)))
  obtain ⟨bs, off, hbs, hbl, hr⟩ := hrng.out _ HS.out.below
  replace hr := hide hr
  obtain ⟨st, hst⟩ : ∃ st, st = lz (M.at k).num 3 := ⟨_, rfl⟩
  go_upto_region 2 with (first | ((with_reducible refine isList ?_); first | (refine st_load1 HS 0 rfl _ _ rfl _ rfl rfl (by decide +kernel) rfl ?_) | (refine wpList_load_at _ _ rfl rfl bs (off + k * 17) rfl (sessOf (A.q k) (M.at k)) (by decide +kernel) (by kernel_rfl) hr.out ?_) | (refine st_alloc HS _ rfl rfl zeroSL zeroS ?_; clear HS; intro W bx HS) | (refine st_storeA HS 0 rfl _ _ _ rfl rfl rfl _ rfl rfl (by kernel_rfl) rfl ?_; clear HS; intro W HS)))
  replace HS : Hid (St w W [blkI bx (sessL (lz (M.at k).num) (.slice (A.q k).p.a (A.q k).p.n (A.q k).p.c) (.slice (A.q k).r.a (A.q k).r.n (A.q k).r.c) (.slice (A.q k).t.a (A.q k).t.n (A.q k).t.c)), blkI bm (machL A M)]) := HS
  clear hr hbs
  by_cases h3 : lz (M.at k).num 3 = 0
  · have h3b : (lz (M.at k).num 3 != 0) = false := by simpa using h3
    replace h3 := hide h3
    by_cases hlt : p < (A.q k).p.n
    · have i1 : (p : Int) < ((A.q k).p.n : Int) := by omega
      obtain ⟨bp, op, hbp, _, hc⟩ := hins.out hlt _ HS.out.below
      replace hc := hide hc
      go_wp2_with (first | ((with_reducible refine isList ?_); first | (refine st_load1 HS 0 rfl _ _ rfl _ rfl rfl (by decide +kernel) rfl ?_) | (refine wpList_load_one _ _ rfl rfl _ rfl _ (by decide +kernel) hc.out ?_)))
      go_ret
      refine ⟨?_, HS.out.below⟩
      rw [← (hR.out (lz (M.at k).prog (p * 4))).2 (by rw [decide_eq_true h3.out, decide_eq_true hlt]; rfl)]
      rfl
    · have i1 : ¬ (p : Int) < ((A.q k).p.n : Int) := by omega
      go_wp2_with (first | ((with_reducible refine isList ?_); first | (refine st_load1 HS 0 rfl _ _ rfl _ rfl rfl (by decide +kernel) rfl ?_)))
      go_ret
      refine ⟨?_, HS.out.below⟩
      rw [← (hR.out (-1)).2 (by rw [decide_eq_false hlt, Bool.and_false]; rfl)]
      rfl
  · have h3b : (lz (M.at k).num 3 != 0) = true := by simpa using h3
    replace h3 := hide h3
    go_wp2_with (first | ((with_reducible refine isList ?_); first | (refine st_load1 HS 0 rfl _ _ rfl _ rfl rfl (by decide +kernel) rfl ?_)))
    go_ret
    refine ⟨?_, HS.out.below⟩
    rw [← (hR.out (-1)).2 (by rw [decide_eq_false h3.out, Bool.false_and]; rfl)]
    rfl
end Go.Proofs.YtnjognmnbpcaaaaGreat
namespace Go.Proofs.YtnjognmnbpcaaaaGreat
open Go.RowKit
set_option linter.unusedSimpArgs false
set_option linter.unusedVariables false
theorem machMay_parts {M : PMach} (h : machMay M = true) : amay M.lens M.wz = true ∧ upToV M.ceil 65535 = true ∧ M.sess.length ≤ 4 ∧ M.tn ≤ 512 ∧ allUp (lz M.clocks) M.ceil 4 = true ∧ allTo (sessOk M) M.sess.length = true ∧ allTo (labOk M) M.tn = true := by
  unfold machMay at h
  simp only [Bool.and_eq_true, decide_eq_true_eq] at h
  exact ⟨h.1.1, h.1.2.1, h.1.2.2.1, h.1.2.2.2, h.2.1, h.2.2.1, h.2.2.2⟩
theorem machMay_sess {M : PMach} (h : machMay M = true) {k : Nat} (hk : k < M.sess.length) : sessMayP M.lens (M.at k) = true := by
  have := allTo_get (machMay_parts h).2.2.2.2.2.1 k hk
  unfold sessOk at this
  exact (Bool.and_eq_true _ _ ▸ this).1
structure SessOk (s : Nat → Sl) (x : PSess) : Prop where
  start : startMay (lz x.num 0) (lz x.num 1) (lz x.num 2) x.pn (lz x.prog) = true
  prog : allTo (instThere s (lz x.prog)) x.pn = true
  writesT : allTo (thereP s (lz x.writes)) x.tn = true
  readsT : allTo (thereP s (lz x.reads)) x.rn = true
  step : 0 ≤ lz x.num 3 ∧ lz x.num 3 ≤ 6
  pc : 0 ≤ lz x.num 4 ∧ lz x.num 4 ≤ x.pn
  regs : allUp (regsI (lz x.num)) 255 4 = true
  reads : readsMay x.rn (lz x.reads) = true
  writes : writesMay x.tn (lz x.writes) = true
  at_ : 0 ≤ lz x.num 9 ∧ lz x.num 9 ≤ x.tn
  stamp : 0 ≤ lz x.num 10 ∧ lz x.num 10 ≤ 65535
  tries : 0 ≤ lz x.num 11 ∧ lz x.num 11 ≤ 65535
  result : 0 ≤ lz x.num 12 ∧ lz x.num 12 ≤ 5
  told : 0 ≤ lz x.num 13 ∧ lz x.num 13 ≤ 255
theorem sessOk_of {s : Nat → Sl} {x : PSess} (h : sessMayP s x = true) : SessOk s x := by
  unfold sessMayP sessMay wordsThere at h
  simp only [Bool.and_eq_true] at h
  obtain ⟨⟨h1, h2, h3, h4⟩, ⟨h5, h6, h7, h8, h9⟩, h10, h11, h12, h13, h14⟩ := h
  exact ⟨h1, h2, h3, h4, upToV_yes h5, upToV_yes h6, h7, h8, h9, upToV_yes h10, upToV_yes h11, upToV_yes h12, upToV_yes h13, upToV_yes h14⟩
theorem here_sess {M : PMach} {k : Nat} (h : machMay M = true) (hk : k < M.sess.length) : SessOk M.lens (M.at k) := sessOk_of (machMay_sess h hk)
end Go.Proofs.YtnjognmnbpcaaaaGreat
namespace Go.Proofs.YtnjognmnbpcaaaaGreat
open Go.RowKit
set_option linter.unusedSimpArgs false
set_option linter.unusedVariables false
/-- Must it drift? -/
def needsP (M : PMach) (i : Int) : Bool × Int :=
  bif hereP M i && decide (runP (M.at i.toNat) = 2) then (!underV ((M.at i.toNat).ins 2) (lz (M.at i.toNat).num 1), 0) else (false, 1400)
theorem runP_yes {x : PSess} {c : Int} (h : runP x = c) (hc : c ≠ -1) : x.step = 0 ∧ x.pc < (x.prog.length / 4 : Nat) ∧ x.ins 0 = c := by
  unfold runP at h
  cases hr : x.runs
  · rw [hr] at h; exact absurd h.symm hc
  · rw [hr] at h
    unfold PSess.runs at hr
    simp only [Bool.and_eq_true, decide_eq_true_eq] at hr
    exact ⟨hr.1, hr.2, h⟩
set_option maxRecDepth 100000 in
set_option maxHeartbeats 2000000 in
theorem rneeds_any (A : MacM) (M : PMach) (i : Int) (w : World) (h : MachIs w A M) :
    Calls Tryz.prog 82 #[machA A M, .int .i64 i] w fun e w' => e = .returned (.tuple #[.bool (needsP M i).1, .int .i64 (needsP M i).2]) ∧ Below w.heap.size w w' := by
  have hX := hide h.sess.1
  have hHere := hide fun (W : World) (hb : Below w.heap.size w W) => rhere_any A M i W (h.below hb)
  have hRun := hide fun (k : Nat) (hk : k < A.s.n) (hp : 0 ≤ (M.at k).pc) (W : World) (hb : Below w.heap.size w W) => rrunning_any A M k W (h.below hb) hk hp
  have hrng := hide fun (k : Nat) (hk : k < A.s.n) (W : World) (hb : Below w.heap.size w W) => (h.below hb).sess.range hk
  have hSes := hide fun (k : Nat) (hk : k < A.s.n) (W : World) (hb : Below w.heap.size w W) => (h.below hb).sess.2.2.2 k hk
  obtain ⟨V0, hV0⟩ : ∃ V0, V0 = machA A M := ⟨_, rfl⟩
  rw [← hV0]
  have HV : Hid (V0.cells = (machL A M).toArray) := by rw [hV0]; rfl
  clear hV0
  have HM := hide h
  have HS := hide (St.refl w)
  clear h
  go_enter Tryz.func82, Tryz.ntmps82
  go_wp2_with (first | ((with_reducible refine isList ?_); first | (refine st_box HS _ _ rfl rfl (machL A M) HV.out ?_; clear HS; intro W bm HS) | (refine st_loadA HS 0 rfl _ _ rfl rfl rfl (by decide +kernel) (by kernel_rfl) ?_)))
  refine (hHere.out _ HS.out.below).mono ?_
  rintro e W1 ⟨rfl, hb⟩
  replace HS := hide (HS.out.on hb)
  clear hb hHere
  cases hh : hereP M i
  · go_wp2
    go_ret2
    refine ⟨?_, HS.out.below⟩
    rw [show needsP M i = (false, 1400) by unfold needsP; rw [hh]; rfl]
    rfl
  · obtain ⟨hmay, k, rfl, hk0⟩ := hereP_yes hh
    have hk : k < A.s.n := by have := hX.out; omega
    have hok := hide (here_sess hmay hk0)
    go_wp2_with (first | ((with_reducible refine isList ?_); first | (refine st_loadA HS 0 rfl _ _ rfl rfl rfl (by decide +kernel) (by kernel_rfl) ?_)))
    refine (hRun.out k hk hok.out.pc.1 _ HS.out.below).mono ?_
    rintro e W2 ⟨rfl, hb⟩
    replace HS := hide (HS.out.on hb)
    clear hb hRun
    by_cases hr : runP (M.at k) = 2
    · have hrb : (runP (M.at k) != 2) = false := by simpa using hr
      have eN : Hid (needsP M k = (!underV ((M.at k).ins 2) (lz (M.at k).num 1), 0)) := by
        show needsP M k = _
        unfold needsP; rw [hh, Int.toNat_natCast, decide_eq_true hr]; rfl
      obtain ⟨_, hpc, _⟩ := runP_yes hr (by decide)
      have hp0 := hok.out.pc.1
      obtain ⟨p, hp⟩ : ∃ p : Nat, lz (M.at k).num 4 = p := ⟨(M.at k).pc.toNat, (Int.toNat_of_nonneg hp0).symm⟩
      have hpp : (M.at k).pc = p := hp
      have hsI := hSes.out k hk _ HS.out.below
      have hlt : p < (A.q k).p.n := by
        have h1 : (M.at k).prog.length = (A.q k).p.n * 4 := hsI.2.1.1
        rw [hpp, h1, Nat.mul_div_cancel _ (by decide)] at hpc
        omega
      have hi2 : (M.at k).ins 2 = lz (M.at k).prog (p * 4 + 2) := by unfold PSess.ins; rw [hpp, Int.toNat_natCast]
      rw [hi2] at eN
      have i1 : (p : Int) < ((A.q k).p.n : Int) := by omega
      have i2 : (k : Int) < (A.s.n : Int) := by omega
      replace hr := hide hr
      clear hpc hp0 hpp hi2 hsI
      go_upto_region 3 with fail
      obtain ⟨bs, off, hbs, hbl, hR⟩ := hrng.out k hk _ HS.out.below
      replace hR := hide hR
      go_upto_region 4 with (first | ((with_reducible refine isList ?_); first | (refine st_load1 HS 0 rfl _ _ rfl _ rfl rfl (by decide +kernel) rfl ?_) | (refine wpList_load_at _ _ rfl rfl bs (off + k * 17) rfl (sessOf (A.q k) (M.at k)) (by decide +kernel) (by kernel_rfl) hR.out ?_) | (refine st_alloc HS _ rfl rfl zeroSL zeroS ?_; clear HS; intro W bx HS) | (refine st_storeA HS 0 rfl _ _ _ rfl rfl rfl _ rfl rfl (by kernel_rfl) rfl ?_; clear HS; intro W HS)))
      replace HS : Hid (St w W [blkI bx (sessL (lz (M.at k).num) (.slice (A.q k).p.a (A.q k).p.n (A.q k).p.c) (.slice (A.q k).r.a (A.q k).r.n (A.q k).r.c) (.slice (A.q k).t.a (A.q k).t.n (A.q k).t.c)), blkI bm (machL A M)]) := HS
      clear hR hbs
      obtain ⟨bp, op, hbp, hpl, hc⟩ := (hSes.out k hk _ HS.out.below).2.1.2.2 (p * 4 + 2) (by omega)
      have c1 : W.cell? ⟨bx, 1, none⟩ = some (.int .i64 (lz (M.at k).num 1)) := (HS.out.blk 0 rfl).cell 1 _ rfl
      have c3 : W.cell? ⟨bx, 3, none⟩ = some (.slice (A.q k).p.a (A.q k).p.n (A.q k).p.c) := (HS.out.blk 0 rfl).cell 3 _ rfl
      have c5 : W.cell? ⟨bx, 5, none⟩ = some (.int .i64 p) := by rw [← hp]; exact (HS.out.blk 0 rfl).cell 5 _ rfl
      have hc2 : W.cell? ⟨bp, op + p * 4 + 2, none⟩ = some (.int .i64 (lz (M.at k).prog (p * 4 + 2))) := by rw [Nat.add_assoc]; exact hc
      rw [hbp] at c3
      clear hc hpl hp hbp
      simp only [Act.put, List.setIfInBounds_toArray, List.set_cons_zero, List.set_cons_succ]
      go_big_quiet ((go_at_call 109; exact Calls.quiet_of_same (flip (runder_any _ _ _))))
      go_wp2
      go_ret2
      refine ⟨?_, (HS.out.drawn _).below⟩
      rw [eN.out]
      rfl
    · have hrb : (runP (M.at k) != 2) = true := by simpa using hr
      go_wp2
      go_ret2
      refine ⟨?_, HS.out.below⟩
      rw [show needsP M k = (false, 1400) by unfold needsP; rw [hh, Int.toNat_natCast, decide_eq_false hr]; rfl]
      rfl
end Go.Proofs.YtnjognmnbpcaaaaGreat
namespace Go.Proofs.YtnjognmnbpcaaaaGreat
open Go.RowKit
set_option linter.unusedSimpArgs false
set_option linter.unusedVariables false
def zeroIL : List Value := [.int .i64 0, .int .i64 0, .int .i64 0, .int .i64 0]
theorem zeroI : ((Tryz.prog.info? 47).bind (·.zero)).map (·.cells) = some zeroIL.toArray := by kernel_rfl
def zeroTL : List Value := [.int .i64 0, .int .i64 0, .int .i64 0]
def zeroWL : List Value := [.int .i64 0, .int .i64 0, .int .i64 0]
theorem zeroW : ((Tryz.prog.info? 107).bind (·.zero)).map (·.cells) = some zeroWL.toArray := by kernel_rfl
theorem zeroT : ((Tryz.prog.info? 85).bind (·.zero)).map (·.cells) = some zeroTL.toArray := by kernel_rfl
/-- The instruction that stands there may be. -/
structure InsAt (A : MacM) (M : PMach) (k : Nat) (p : Nat) : Prop where
  pc : lz (M.at k).num 4 = p
  lt : p < (A.q k).p.n
  few : (A.q k).p.n ≤ 16
  may : instMay (instAt (lz (M.at k).prog) p) = true
  jump : badJump (lz (M.at k).prog) (A.q k).p.n p = false
  ins : ∀ j, (M.at k).ins j = lz (M.at k).prog (p * 4 + j)
theorem ins_at {A : MacM} {M : PMach} {w : World} {k : Nat} (h : MachIs w A M) (hk : k < A.s.n) (hok : SessOk M.lens (M.at k)) {c : Int} (hr : runP (M.at k) = c) (hc : c ≠ -1) : ∃ p, InsAt A M k p := by
  obtain ⟨_, hpc, _⟩ := runP_yes hr hc
  have hp0 := hok.pc.1
  obtain ⟨p, hp⟩ : ∃ p : Nat, lz (M.at k).num 4 = p := ⟨(M.at k).pc.toNat, (Int.toNat_of_nonneg hp0).symm⟩
  have hpp : (M.at k).pc = p := hp
  have h1 : (M.at k).prog.length = (A.q k).p.n * 4 := (h.sess.2.2.2 k hk).2.1.1
  have hn : (M.at k).pn = (A.q k).p.n := by unfold PSess.pn; rw [h1, Nat.mul_div_cancel _ (by decide)]
  have hlt : p < (A.q k).p.n := by
    rw [hpp, h1, Nat.mul_div_cancel _ (by decide)] at hpc
    omega
  have hs := hok.start
  rw [hn] at hs
  unfold startMay at hs
  simp only [Bool.and_eq_true] at hs
  obtain ⟨hpt, hpl⟩ := progMay_get hs.2.2
  obtain ⟨h2, h3⟩ := progTo_get hpt p hlt
  exact ⟨p, hp, hlt, hpl, h2, h3, fun j => by unfold PSess.ins; rw [hpp, Int.toNat_natCast]⟩
theorem InsAt.code {A : MacM} {M : PMach} {k p : Nat} (h : InsAt A M k p) {c : Int} (hr : runP (M.at k) = c) (hc : c ≠ -1) : lz (M.at k).prog (p * 4) = c := by
  have := (runP_yes hr hc).2.2
  rw [h.ins 0, Nat.add_zero] at this
  exact this
theorem upToV_nat {x : Int} {m : Nat} (h : upToV x m = true) : ∃ a : Nat, x = a ∧ a ≤ m := by
  have := upToV_yes h
  exact ⟨x.toNat, by omega, by omega⟩
/-- A read's, a write's: three numbers, from 0 to 3. -/
theorem InsAt.word {A : MacM} {M : PMach} {k p : Nat} (h : InsAt A M k p) (hc : lz (M.at k).prog (p * 4) = 2 ∨ lz (M.at k).prog (p * 4) = 3) :
    ∃ a b c : Nat, (lz (M.at k).prog (p * 4 + 1) = a ∧ a < 4) ∧ (lz (M.at k).prog (p * 4 + 2) = b ∧ b < 4) ∧ (lz (M.at k).prog (p * 4 + 3) = c ∧ c < 4) := by
  have := h.may
  rw [instMay_23 (by show lz (M.at k).prog (p * 4 + 0) = 2 ∨ lz (M.at k).prog (p * 4 + 0) = 3; rw [Nat.add_zero]; exact hc)] at this
  obtain ⟨h1, h2, h3⟩ := and3b this
  obtain ⟨a, ha, ha'⟩ := upToV_nat (m := 3) h1
  obtain ⟨b, hb, hb'⟩ := upToV_nat (m := 3) h2
  obtain ⟨c, hcc, hc'⟩ := upToV_nat (m := 3) h3
  exact ⟨a, b, c, ⟨ha, by omega⟩, ⟨hb, by omega⟩, ⟨hcc, by omega⟩⟩
/-- Four cells of a list, three of one. -/
theorem SlIs.four {W : World} {s : Sl} {L : List Int} (h : SlIs W 4 s L) {p : Nat} (hp : p < s.n) : ∃ b off, s.a = some ⟨b, off, none⟩ ∧ b < W.heap.size ∧ W.rangeAt b (off + p * 4) [.int .i64 (lz L (p * 4)), .int .i64 (lz L (p * 4 + 1)), .int .i64 (lz L (p * 4 + 2)), .int .i64 (lz L (p * 4 + 3))] := by
  obtain ⟨b, off, e, hb, h0⟩ := h.2.2 (p * 4) (by omega)
  refine ⟨b, off, e, hb, fun j v hv => ?_⟩
  have hj : j < 4 := by simpa using (List.getElem?_eq_some_iff.1 hv).1
  obtain ⟨b', off', e', _, hc⟩ := h.2.2 (p * 4 + j) (by omega)
  rw [e] at e'; cases e'
  rw [Nat.add_assoc, hc]
  have : j = 0 ∨ j = 1 ∨ j = 2 ∨ j = 3 := by omega
  rcases this with rfl | rfl | rfl | rfl <;> simpa using hv
theorem SlIs.three {W : World} {s : Sl} {L : List Int} (h : SlIs W 3 s L) {p : Nat} (hp : p < s.n) : ∃ b off, s.a = some ⟨b, off, none⟩ ∧ b < W.heap.size ∧ W.rangeAt b (off + p * 3) [.int .i64 (lz L (p * 3)), .int .i64 (lz L (p * 3 + 1)), .int .i64 (lz L (p * 3 + 2))] := by
  obtain ⟨b, off, e, hb, h0⟩ := h.2.2 (p * 3) (by omega)
  refine ⟨b, off, e, hb, fun j v hv => ?_⟩
  have hj : j < 3 := by simpa using (List.getElem?_eq_some_iff.1 hv).1
  obtain ⟨b', off', e', _, hc⟩ := h.2.2 (p * 3 + j) (by omega)
  rw [e] at e'; cases e'
  rw [Nat.add_assoc, hc]
  have : j = 0 ∨ j = 1 ∨ j = 2 := by omega
  rcases this with rfl | rfl | rfl <;> simpa using hv
/-- A register's cell; its bounds. -/
theorem sessL_reg {i : Nat → Int} {p r t : Value} {a : Nat} (ha : a < 4) : (sessL i p r t)[6 + a]? = some (.int .i64 (i (5 + a))) := by
  have : a = 0 ∨ a = 1 ∨ a = 2 ∨ a = 3 := by omega
  rcases this with rfl | rfl | rfl | rfl <;> rfl
theorem SessOk.reg {s : Nat → Sl} {x : PSess} (h : SessOk s x) {a : Nat} (ha : a < 4) : 0 ≤ lz x.num (5 + a) ∧ lz x.num (5 + a) ≤ 255 := by
  exact upToV_yes (allUp_get h.regs a ha)
/-- A list that a function made, as one told by its numbers. -/
theorem lis_of {W : World} {D : Nat → Prop} {k : Nat} {x : Sl} {z : Nat → Int} (hf : x.n * (8 * k) ≤ 140737488351232 ∧ x.n ≤ x.c ∧ (x.a = none → x.n = 0 ∧ x.c = 0)) (ho : 0 < x.n → ∃ b, x.a = some ⟨b, 0, none⟩ ∧ D b ∧ Own W b (x.n * k) (intF z)) : SlIs W k x ((List.range (x.n * k)).map z) ∧ SlOwn D W x := by
  refine ⟨slIs_of hf fun i hi => ?_, fun h0 => ?_⟩
  · obtain ⟨b, e, _, ho⟩ := ho (Nat.pos_of_mul_pos_right (by omega : 0 < x.n * k))
    obtain ⟨b', off, e', hb, hc⟩ := ho.row i hi
    exact ⟨b', off, e.trans e', hb, hc⟩
  · obtain ⟨b, e, hD, l, hl, _⟩ := ho h0
    exact ⟨b, e, hD, l, hl⟩
/-- Some cells of a block. -/
theorem Blk.part {w : World} {b : Nat} {l : List Value} (h : Blk w b l) (o : Nat) {cs r : List Value} (e : l.drop o = cs ++ r) : w.rangeAt b o cs := fun j v hv => by
  refine h.cell (o + j) v ?_
  have : (l.drop o)[j]? = some v := by rw [e, List.getElem?_append_left (List.getElem?_eq_some_iff.1 hv).1]; exact hv
  simpa using this
def zeroQL : List Value := [.int .i64 0, .int .i64 0, .int .i64 0, .int .i64 0]
theorem zeroQ : ((Tryz.prog.info? 24).bind (·.zero)).map (·.cells) = some zeroQL.toArray := by kernel_rfl
/-- The clocks. -/
def PMach.doC (M : PMach) (c : List Int) : PMach := { M with clocks := c }
theorem MachOwn.doC {D : Nat → Prop} {W : World} {A : MacM} {M : PMach} (h : MachOwn D W A M) {c : List Int} (hc : c.length = 4) : MachOwn D W A (M.doC c) :=
  ⟨⟨h.is.four, hc, h.is.words, h.is.sess, h.is.trace⟩, h.own, h.apart, h.trace⟩
theorem St.doC {w0 W : World} {L : List Itm} (h : St w0 W L) (i : Nat) {D : Nat → Prop} {A : MacM} {M : PMach} (e : L[i]? = some (machI D A M)) {c : List Int} (hc : c.length = 4) : St w0 W (L.set i (machI D A (M.doC c))) :=
  h.set i e (machI D A (M.doC c)) (Chg.refl _ _) (machI_loc _ _ _) ((show MachOwn D W A M from h.get i e).doC hc) fun k hk => .inl hk
theorem PMach.at_setS {M : PMach} {k : Nat} {y : PSess} (hk : k < M.sess.length) : (M.setS k y).at k = y := getD_set_eq _ _ hk
section
variable {P : Program} {ops : Array Oper} {Q : Exit → Act → World → Prop} {C : World → Prop}
/-- A part of a tuple, whenever. -/
theorem wpRest_extract {bs : List Nat} {o : Oper} {os : List Oper} {a : Act} {w : World} (x : Operand) (i : Nat) (ho : o.op = .extract x i) (hw : Region.wanted o (yielded ops a.tmps) = true) {vs : Array Value} (hx : ValOf a x (.tuple vs)) {v : Value} (hv : vs[i]? = some v)
    (h : wpRest P ops Q C bs os (a.put o.dst v) w) : wpRest P ops Q C (3 :: bs) (o :: os) a w :=
  ⟨v, .inl ⟨hw, fun w => by
    unfold execOp
    simp only [ho, hx.eval]
    simp [Instr.extract, Sem.run_bind, hv]⟩, h⟩
theorem wpRest_move {bs : List Nat} {o : Oper} {os : List Oper} {a : Act} {w : World} (x : Operand) (ho : o.op = .move x) (hw : Region.wanted o (yielded ops a.tmps) = true) {v : Value} (hx : ValOf a x v)
    (h : wpRest P ops Q C bs os (a.put o.dst v) w) : wpRest P ops Q C (3 :: bs) (o :: os) a w :=
  ⟨v, .inl ⟨hw, fun w => by unfold execOp; simp only [ho, hx.eval]; rfl⟩, h⟩
end
end Go.Proofs.YtnjognmnbpcaaaaGreat
namespace Go.Proofs.YtnjognmnbpcaaaaGreat
open Go.RowKit
set_option linter.unusedSimpArgs false
set_option linter.unusedVariables false
/-- It ends. -/
def endP (M : PMach) (i r t : Int) : PMach × Int :=
  bif hereP M i && (upToV r 5 && upToV t 255) then (tellP ((((looseP M i.toNat).doN i.toNat 3 6).doN i.toNat 12 r).doN i.toNat 13 t) i.toNat 6 r, 0) else (noMach, 1300)
set_option maxRecDepth 100000 in
set_option maxHeartbeats 4000000 in
theorem rend_any (A : MacM) (M : PMach) (i r t : Int) (w : World) (h : MachIs w A M) :
    Calls Tryz.prog 86 #[machA A M, .int .i64 i, .int .i64 r, .int .i64 t] w (MRet w (endP M i r t)) := by
  have hX := hide h.sess.1
  have hHere := hide fun (W : World) (hb : Below w.heap.size w W) => rhere_any A M i W (h.below hb)
  have hLoose := hide fun (k : Nat) (hk : k < A.s.n) (W : World) (hb : Below w.heap.size w W) => rloose_any A M k W (h.below hb) hk
  obtain ⟨V0, hV0⟩ : ∃ V0, V0 = machA A M := ⟨_, rfl⟩
  rw [← hV0]
  have HV : Hid (V0.cells = (machL A M).toArray) := by rw [hV0]; rfl
  clear hV0
  have HM := hide h
  have HS := hide (St.refl w)
  clear h
  go_enter Tryz.func86, Tryz.ntmps86
  go_wp2_with (first | ((with_reducible refine isList ?_); first | (refine st_box HS _ _ rfl rfl (machL A M) HV.out ?_; clear HS; intro W bm HS) | (refine st_alloc HS _ rfl rfl zeroML zeroM ?_; clear HS; intro W br HS) | (refine st_loadA HS 1 rfl _ _ rfl rfl rfl (by decide +kernel) (by kernel_rfl) ?_)))
  refine (hHere.out _ HS.out.below).mono ?_
  rintro e W1 ⟨rfl, hb⟩
  replace HS := hide (HS.out.on hb)
  clear hb hHere
  cases hh : hereP M i
  · go_wp2_with (first | ((with_reducible refine isList ?_); first | (refine st_storeA HS 0 rfl _ _ _ rfl rfl rfl _ rfl rfl (by kernel_rfl) rfl ?_; clear HS; intro W HS)))
    rw [show endP M i r t = (noMach, 1300) by unfold endP; rw [hh]; rfl]
    exact bodyPost_ret (ret_mach2 Tryz.results86 (HS.out.blk 0 rfl) rfl rfl rfl) rfl (mret_no HS.out.below)
  · obtain ⟨_, k, rfl, hk⟩ := hereP_yes hh
    rw [hX.out] at hk
    cases hu : upToV r 5
    · go_wp2_with (first | ((with_reducible refine isList ?_); first | (refine st_storeA HS 0 rfl _ _ _ rfl rfl rfl _ rfl rfl (by kernel_rfl) rfl ?_; clear HS; intro W HS)) | (go_at_call 77; refine (mupTo_any _ _ _).mono ?_; rintro e w' ⟨rfl, rfl⟩))
      rw [show endP M k r t = (noMach, 1300) by unfold endP; rw [hh, hu]; rfl]
      exact bodyPost_ret (ret_mach2 Tryz.results86 (HS.out.blk 0 rfl) rfl rfl rfl) rfl (mret_no HS.out.below)
    · cases ht : upToV t 255
      · go_wp2_with (first | ((with_reducible refine isList ?_); first | (refine st_storeA HS 0 rfl _ _ _ rfl rfl rfl _ rfl rfl (by kernel_rfl) rfl ?_; clear HS; intro W HS)) | (go_at_call 77; refine (mupTo_any _ _ _).mono ?_; rintro e w' ⟨rfl, rfl⟩) | (go_at_call 52; refine (rvalue_any _ _).mono ?_; rintro e w' ⟨rfl, rfl⟩))
        rw [show endP M k r t = (noMach, 1300) by unfold endP; rw [hh, hu, ht]; rfl]
        exact bodyPost_ret (ret_mach2 Tryz.results86 (HS.out.blk 0 rfl) rfl rfl rfl) rfl (mret_no HS.out.below)
      · have eP : endP M k r t = (tellP ((((looseP M k).doN k 3 6).doN k 12 r).doN k 13 t) k 6 r, 0) := by unfold endP; rw [hh, hu, ht]; rfl
        replace eP := hide eP
        go_wp2_with (first | ((with_reducible refine isList ?_); first | (refine st_loadA HS 1 rfl _ _ rfl rfl rfl (by decide +kernel) (by kernel_rfl) ?_)) | (go_at_call 77; refine (mupTo_any _ _ _).mono ?_; rintro e w' ⟨rfl, rfl⟩) | (go_at_call 52; refine (rvalue_any _ _).mono ?_; rintro e w' ⟨rfl, rfl⟩))
        refine (hLoose.out k hk _ HS.out.below).mono ?_
        rintro e W2 ⟨A1, rfl, hO, hn1, hb⟩
        have HS1 := hide (HS.out.push hb (machI (fun k => _) A1 _) (machI_loc _ _ _) hO fun k hk => hk)
        generalize (fun k => _) = D1 at HS1
        obtain ⟨N0, hN0⟩ : ∃ N0, N0 = looseP M k := ⟨_, rfl⟩
        rw [← hN0] at HS1 hO eP
        replace hN0 := hide hN0
        have hk1 : k < A1.s.n := by omega
        obtain ⟨bs1, hbs1, _⟩ := MachOwn.sblk hO hk1
        replace hbs1 := hide hbs1
        have i1 : (k : Int) < (A1.s.n : Int) := by omega
        have i2 : (k : Int) < (A.s.n : Int) := by omega
        clear HS hb hO hLoose
        rw [← hN0.out]
        go_upto_region 4 with (first | ((with_reducible refine isList ?_); first | (refine st_alloc HS1 _ rfl rfl zeroML zeroM ?_; clear HS1; intro W bo HS) | (refine st_storeA HS 0 rfl _ _ _ rfl rfl rfl _ rfl rfl (by kernel_rfl) rfl ?_; clear HS; intro W HS)))
        replace HS : Hid (St w W [blkI bo (machL A1 N0), machI D1 A1 N0, blkI br zeroML, blkI bm (machL A M)]) := HS
        replace hbs1 := hbs1.out
        go_upto_region 7 with (first | ((with_reducible refine isList ?_); first | (refine st_load1 HS 0 rfl _ _ rfl _ rfl rfl (by decide +kernel) rfl ?_) | (refine st_storeN HS 1 rfl hk1 hbs1 3 (by decide) _ _ _ rfl _ rfl (show _ = k * 17 + 4 from by with_reducible rfl) rfl rfl (by decide +kernel) ?_; clear HS; intro W HS) | (refine st_storeN HS 1 rfl hk1 hbs1 12 (by decide) _ _ _ rfl _ rfl (show _ = k * 17 + 15 from by with_reducible rfl) rfl rfl (by decide +kernel) ?_; clear HS; intro W HS) | (refine st_storeN HS 1 rfl hk1 hbs1 13 (by decide) _ _ _ rfl _ rfl (show _ = k * 17 + 16 from by with_reducible rfl) rfl rfl (by decide +kernel) ?_; clear HS; intro W HS)))
        replace HS : Hid (St w W [blkI bo (machL A1 N0), machI D1 A1 (((N0.doN k 3 6).doN k 12 r).doN k 13 t), blkI br zeroML, blkI bm (machL A M)]) := HS
        obtain ⟨N1, hN1⟩ : ∃ N1, N1 = ((N0.doN k 3 6).doN k 12 r).doN k 13 t := ⟨_, rfl⟩
        have eL : machL A1 N0 = machL A1 N1 := by rw [hN1]; rfl
        rw [← hN1] at HS eP
        rw [eL] at HS
        clear hN1 eL
        go_wp2_with (first | ((with_reducible refine isList ?_); first | (refine st_loadA HS 0 rfl _ _ rfl rfl rfl (by decide +kernel) (by kernel_rfl) ?_)))
        refine (rtell_any w _ _ 1 D1 A1 N1 k _ r HS rfl hk1).mono ?_
        rintro e W4 ⟨D2, A2, rfl, HS2, hS2⟩
        replace HS2 : Hid (St w W4 [blkI bo (machL A1 N1), machI D2 A2 (tellP N1 k 6 r), blkI br zeroML, blkI bm (machL A M)]) := HS2
        clear HS
        replace HS := HS2
        clear HS2
        go_wp2_with (first | ((with_reducible refine isList ?_); first | (refine st_storeA HS 2 rfl _ _ _ rfl rfl rfl _ rfl rfl (by kernel_rfl) rfl ?_; clear HS; intro W HS)))
        rw [eP.out]
        exact bodyPost_ret (ret_mach2 Tryz.results86 (HS.out.blk 2 rfl) rfl rfl rfl) rfl (mret_of (R := (tellP N1 k 6 r, 0)) HS.out 1 (D := D2) (A := A2) rfl)
end Go.Proofs.YtnjognmnbpcaaaaGreat
namespace Go.Proofs.YtnjognmnbpcaaaaGreat
open Go.RowKit
set_option linter.unusedSimpArgs false
set_option linter.unusedVariables false
/-- The label that it drifts to. -/
def driftL (x : PSess) : Int := bits .or .i64 (lz x.num 1) (x.ins 2)
def driftP (M : PMach) (i : Int) : PMach × Int :=
  bif decide ((needsP M i).2 = 0) && (needsP M i).1 then
    bif underV (driftL (M.at i.toNat)) (lz (M.at i.toNat).num 2) then ((tellP M i.toNat 2 (driftL (M.at i.toNat))).doN i.toNat 1 (driftL (M.at i.toNat)), 0) else endP M i 4 0
  else (noMach, 1400)
theorem needsP_here {M : PMach} {i : Int} (h : (needsP M i).2 = 0) : hereP M i = true ∧ runP (M.at i.toNat) = 2 := by
  unfold needsP at h
  cases hh : hereP M i && decide (runP (M.at i.toNat) = 2)
  · rw [hh] at h; exact absurd h (by show ¬ (1400 : Int) = 0; decide)
  · simpa using hh
set_option maxRecDepth 100000 in
set_option maxHeartbeats 2000000 in
theorem rdrift_any (A : MacM) (M : PMach) (i : Int) (w : World) (h : MachIs w A M) :
    Calls Tryz.prog 83 #[machA A M, .int .i64 i] w (MRet w (driftP M i)) := by
  have hX := hide h.sess.1
  have hNeeds := hide fun (W : World) (hb : Below w.heap.size w W) => rneeds_any A M i W (h.below hb)
  have hEnd := hide fun (W : World) (hb : Below w.heap.size w W) => rend_any A M i 4 0 W (h.below hb)
  have hCopy := hide fun (W : World) (hb : Below w.heap.size w W) => rcopyMach_any A M W (h.below hb)
  have hrng := hide fun (k : Nat) (hk : k < A.s.n) (W : World) (hb : Below w.heap.size w W) => (h.below hb).sess.range hk
  have hSes := hide fun (k : Nat) (hk : k < A.s.n) (W : World) (hb : Below w.heap.size w W) => (h.below hb).sess.2.2.2 k hk
  obtain ⟨V0, hV0⟩ : ∃ V0, V0 = machA A M := ⟨_, rfl⟩
  rw [← hV0]
  have HV : Hid (V0.cells = (machL A M).toArray) := by rw [hV0]; rfl
  clear hV0
  have HM := hide h
  have HS := hide (St.refl w)
  clear h
  go_enter Tryz.func83, Tryz.ntmps83
  go_wp2_with (first | ((with_reducible refine isList ?_); first | (refine st_box HS _ _ rfl rfl (machL A M) HV.out ?_; clear HS; intro W bm HS) | (refine st_alloc HS _ rfl rfl zeroML zeroM ?_; clear HS; intro W br HS) | (refine st_loadA HS 1 rfl _ _ rfl rfl rfl (by decide +kernel) (by kernel_rfl) ?_)))
  refine (hNeeds.out _ HS.out.below).mono ?_
  rintro e W1 ⟨rfl, hb⟩
  replace HS := hide (HS.out.on hb)
  clear hb hNeeds
  by_cases he : (needsP M i).2 = 0
  · have heb : ((needsP M i).2 != 0) = false := by simpa using he
    cases hn : (needsP M i).1
    · go_wp2_with (first | ((with_reducible refine isList ?_); first | (refine st_storeA HS 0 rfl _ _ _ rfl rfl rfl _ rfl rfl (by kernel_rfl) rfl ?_; clear HS; intro W HS)))
      rw [show driftP M i = (noMach, 1400) by unfold driftP; rw [hn, Bool.and_false]; rfl]
      exact bodyPost_ret (ret_mach2 Tryz.results83 (HS.out.blk 0 rfl) rfl rfl rfl) rfl (mret_no HS.out.below)
    · obtain ⟨hh, hr⟩ := needsP_here he
      obtain ⟨hmay, k, rfl, hk0⟩ := hereP_yes hh
      rw [Int.toNat_natCast] at hr
      have hk : k < A.s.n := by have := hX.out; omega
      have hok := hide (here_sess hmay hk0)
      have eD : Hid (driftP M k = bif underV (driftL (M.at k)) (lz (M.at k).num 2) then ((tellP M k 2 (driftL (M.at k))).doN k 1 (driftL (M.at k)), 0) else endP M k 4 0) := by
        show driftP M k = _
        unfold driftP; rw [hn, decide_eq_true he, Int.toNat_natCast]; rfl
      obtain ⟨_, hpc, _⟩ := runP_yes hr (by decide)
      have hp0 := hok.out.pc.1
      obtain ⟨p, hp⟩ : ∃ p : Nat, lz (M.at k).num 4 = p := ⟨(M.at k).pc.toNat, (Int.toNat_of_nonneg hp0).symm⟩
      have hpp : (M.at k).pc = p := hp
      have hsI := hSes.out k hk _ HS.out.below
      have hlt : p < (A.q k).p.n := by
        have h1 : (M.at k).prog.length = (A.q k).p.n * 4 := hsI.2.1.1
        rw [hpp, h1, Nat.mul_div_cancel _ (by decide)] at hpc
        omega
      have hi2 : driftL (M.at k) = bits .or .i64 (lz (M.at k).num 1) (lz (M.at k).prog (p * 4 + 2)) := by unfold driftL PSess.ins; rw [hpp, Int.toNat_natCast]
      replace hi2 := hide hi2
      have i1 : (p : Int) < ((A.q k).p.n : Int) := by omega
      have i2 : (k : Int) < (A.s.n : Int) := by omega
      clear hpc hp0 hpp hsI hr hh he hmay
      go_upto_region 4 with fail
      obtain ⟨bs, off, hbs, hbl, hR⟩ := hrng.out k hk _ HS.out.below
      replace hR := hide hR
      go_upto_region 5 with (first | ((with_reducible refine isList ?_); first | (refine st_load1 HS 1 rfl _ _ rfl _ rfl rfl (by decide +kernel) rfl ?_) | (refine wpList_load_at _ _ rfl rfl bs (off + k * 17) rfl (sessOf (A.q k) (M.at k)) (by decide +kernel) (by kernel_rfl) hR.out ?_) | (refine st_alloc HS _ rfl rfl zeroSL zeroS ?_; clear HS; intro W bx HS) | (refine st_storeA HS 0 rfl _ _ _ rfl rfl rfl _ rfl rfl (by kernel_rfl) rfl ?_; clear HS; intro W HS)))
      replace HS : Hid (St w W [blkI bx (sessL (lz (M.at k).num) (.slice (A.q k).p.a (A.q k).p.n (A.q k).p.c) (.slice (A.q k).r.a (A.q k).r.n (A.q k).r.c) (.slice (A.q k).t.a (A.q k).t.n (A.q k).t.c)), blkI br zeroML, blkI bm (machL A M)]) := HS
      clear hR hbs
      obtain ⟨bp, op, hbp, hpl, hc⟩ := (hSes.out k hk _ HS.out.below).2.1.2.2 (p * 4 + 2) (by omega)
      have c1 : W.cell? ⟨bx, 1, none⟩ = some (.int .i64 (lz (M.at k).num 1)) := (HS.out.blk 0 rfl).cell 1 _ rfl
      have c3 : W.cell? ⟨bx, 3, none⟩ = some (.slice (A.q k).p.a (A.q k).p.n (A.q k).p.c) := (HS.out.blk 0 rfl).cell 3 _ rfl
      have c5 : W.cell? ⟨bx, 5, none⟩ = some (.int .i64 p) := by rw [← hp]; exact (HS.out.blk 0 rfl).cell 5 _ rfl
      have hc2 : W.cell? ⟨bp, op + p * 4 + 2, none⟩ = some (.int .i64 (lz (M.at k).prog (p * 4 + 2))) := by rw [Nat.add_assoc]; exact hc
      rw [hbp] at c3
      clear hc hpl hp hbp
      simp only [Act.put, List.setIfInBounds_toArray, List.set_cons_zero, List.set_cons_succ]
      go_big_quiet (fail)
      replace HS := hide (HS.out.drawn nq)
      generalize W.drewN nq = Wd at *
      rw [← hi2.out]
      obtain ⟨l, hl⟩ : ∃ l, l = driftL (M.at k) := ⟨_, rfl⟩
      rw [← hl] at eD ⊢
      clear hl hi2
      obtain ⟨c, hc⟩ : ∃ c, c = lz (M.at k).num 2 := ⟨_, rfl⟩
      replace HS : Hid (St w Wd [blkI bx (sessL (lz (M.at k).num) (.slice (A.q k).p.a (A.q k).p.n (A.q k).p.c) (.slice (A.q k).r.a (A.q k).r.n (A.q k).r.c) (.slice (A.q k).t.a (A.q k).t.n (A.q k).t.c)), blkI br zeroML, blkI bm (machL A M)]) := HS
      clear c1 c3 c5 hc2
      go_wp2_with (first | ((with_reducible refine isList ?_); first | (refine st_load1 HS 0 rfl _ _ rfl _ rfl rfl (by decide +kernel) rfl ?_)))
      refine (runder_any _ _ _).mono ?_
      rintro e w' ⟨rfl, rfl⟩
      cases hu : underV l (lz (M.at k).num 2)
      · rw [hu] at eD
        go_wp2_with (first | ((with_reducible refine isList ?_); first | (refine st_loadA HS 2 rfl _ _ rfl rfl rfl (by decide +kernel) (by kernel_rfl) ?_)))
        refine (hEnd.out _ HS.out.below).mono ?_
        rintro e W2 ⟨A2, rfl, hO, hb⟩
        have HS2 := hide (HS.out.push hb (machI (fun k => _) A2 _) (machI_loc _ _ _) hO fun k hk => hk)
        generalize (fun k => _) = D2 at HS2
        clear hO HS hb
        replace HS := HS2
        clear HS2
        go_wp2_with (first | ((with_reducible refine isList ?_); first | (refine st_storeA HS 2 rfl _ _ _ rfl rfl rfl _ rfl rfl (by kernel_rfl) rfl ?_; clear HS; intro W HS)))
        rw [eD.out]
        exact bodyPost_ret (ret_mach2 Tryz.results83 (HS.out.blk 2 rfl) rfl rfl rfl) rfl (mret_of (R := endP M k 4 0) HS.out 0 (D := D2) (A := A2) rfl)
      · rw [hu] at eD
        go_wp2_with (first | ((with_reducible refine isList ?_); first | (refine st_loadA HS 2 rfl _ _ rfl rfl rfl (by decide +kernel) (by kernel_rfl) ?_)))
        refine (hCopy.out _ HS.out.below).mono ?_
        rintro e W2 ⟨A1, rfl, hO, hb⟩
        have HS1 := hide (HS.out.push hb (machI (fun k => _) A1 M) (machI_loc _ _ _) hO fun k hk => hk)
        generalize (fun k => _) = D1 at HS1
        have hk1 : k < A1.s.n := by have := hO.is.sess.1; have := hX.out; omega
        clear HS hb hO hCopy
        go_wp2_with fail
        refine (rtell_any w _ _ 0 D1 A1 M k 2 l HS1 rfl hk1).mono ?_
        rintro e W3 ⟨D2, A2, rfl, HS, hS2⟩
        replace HS : Hid (St w W3 [machI D2 A2 (tellP M k 2 l), blkI bx (sessL (lz (M.at k).num) (.slice (A.q k).p.a (A.q k).p.n (A.q k).p.c) (.slice (A.q k).r.a (A.q k).r.n (A.q k).r.c) (.slice (A.q k).t.a (A.q k).t.n (A.q k).t.c)), blkI br zeroML, blkI bm (machL A M)]) := hide HS
        clear HS1
        have hk2 : k < A2.s.n := by rw [hS2]; exact hk1
        obtain ⟨bs1, hbs1, _⟩ := MachOwn.sblk (HS.out.get 0 (x := machI D2 A2 (tellP M k 2 l)) rfl) hk2
        have i3 : (k : Int) < (A2.s.n : Int) := by omega
        replace hbs1 := hide hbs1
        replace hS2 := hide hS2
        clear hk1
        have hk1 := hk2
        go_upto_region 9 with (first | ((with_reducible refine isList ?_); first | (refine st_alloc HS _ rfl rfl zeroML zeroM ?_; clear HS; intro W bo HS) | (refine st_storeA HS 0 rfl _ _ _ rfl rfl rfl _ rfl rfl (by kernel_rfl) rfl ?_; clear HS; intro W HS)))
        replace HS : Hid (St w W [blkI bo (machL A2 (tellP M k 2 l)), machI D2 A2 (tellP M k 2 l), blkI bx (sessL (lz (M.at k).num) (.slice (A.q k).p.a (A.q k).p.n (A.q k).p.c) (.slice (A.q k).r.a (A.q k).r.n (A.q k).r.c) (.slice (A.q k).t.a (A.q k).t.n (A.q k).t.c)), blkI br zeroML, blkI bm (machL A M)]) := HS
        replace hbs1 := hbs1.out
        go_wp2_with (first | ((with_reducible refine isList ?_); first | (refine st_load1 HS 0 rfl _ _ rfl _ rfl rfl (by decide +kernel) rfl ?_) | (refine st_storeN HS 1 rfl hk1 hbs1 1 (by decide) _ _ _ rfl _ rfl (show _ = k * 17 + 1 from by with_reducible rfl) rfl rfl (by decide +kernel) ?_; clear HS; intro W HS) | (refine st_loadA HS 0 rfl _ _ rfl rfl rfl (by decide +kernel) (by kernel_rfl) ?_) | (refine st_storeA HS 3 rfl _ _ _ rfl rfl rfl _ rfl rfl (by kernel_rfl) rfl ?_; clear HS; intro W HS)))
        rw [eD.out]
        exact bodyPost_ret (ret_mach2 Tryz.results83 (HS.out.blk 3 rfl) rfl rfl rfl) rfl (mret_of (R := ((tellP M k 2 l).doN k 1 l, 0)) HS.out 1 (D := D2) (A := A2) rfl)
  · have heb : ((needsP M i).2 != 0) = true := by simpa using he
    go_wp2_with (first | ((with_reducible refine isList ?_); first | (refine st_storeA HS 0 rfl _ _ _ rfl rfl rfl _ rfl rfl (by kernel_rfl) rfl ?_; clear HS; intro W HS)))
    rw [show driftP M i = (noMach, 1400) by unfold driftP; rw [decide_eq_false he]; rfl]
    exact bodyPost_ret (ret_mach2 Tryz.results83 (HS.out.blk 0 rfl) rfl rfl rfl) rfl (mret_no HS.out.below)
end Go.Proofs.YtnjognmnbpcaaaaGreat
namespace Go.Proofs.YtnjognmnbpcaaaaGreat
open Go.RowKit
set_option linter.unusedSimpArgs false
set_option linter.unusedVariables false
def PSess.at_ (x : PSess) : Int := lz x.num 9
def leftP (M : PMach) (i s : Int) : Bool := hereP M i && (decide ((M.at i.toNat).step = s) && decide ((M.at i.toNat).at_ < ((M.at i.toNat).tn : Int)))
set_option maxRecDepth 100000 in
set_option maxHeartbeats 2000000 in
theorem rleft_any (A : MacM) (M : PMach) (i s : Int) (w : World) (h : MachIs w A M) :
    Calls Tryz.prog 88 #[machA A M, .int .i64 i, .int .i64 s] w fun e w' => e = .returned (.bool (leftP M i s)) ∧ Below w.heap.size w w' := by
  have hX := hide h.sess.1
  have hHere := hide fun (W : World) (hb : Below w.heap.size w W) => rhere_any A M i W (h.below hb)
  obtain ⟨V0, hV0⟩ : ∃ V0, V0 = machA A M := ⟨_, rfl⟩
  rw [← hV0]
  have HV : Hid (V0.cells = (machL A M).toArray) := by rw [hV0]; rfl
  clear hV0
  have HM := hide h
  have HS := hide (St.refl w)
  clear h
  go_enter Tryz.func88, Tryz.ntmps88
  go_upto_region 1 with (first | ((with_reducible refine isList ?_); first | (refine st_box HS _ _ rfl rfl (machL A M) HV.out ?_; clear HS; intro W bm HS)))
  have HB := HS.out.blk 0 rfl
  cases hh : hereP M i
  · have eL : Hid (leftP M i s = false) := by show leftP M i s = false; unfold leftP; rw [hh]; rfl
    replace hh := hide hh
    (try simp only [Act.put, List.setIfInBounds_toArray, List.set_cons_zero, List.set_cons_succ])
    refine wp_region_mid [true, true, false, false, false, false, false, false, false, false, false, false, false, false, false, false, false, false, false, false, false, false, false, false, false, false, false, false, false, false] 2 _ [false, false, false, true, true, true, true, true, true, true, true, true, true, true, true, true, true, true, true, true, true, true, true, true, true, true, true, true, true, true] (fun w' => Blk w' bm (machL A M)) (by kernel_rfl) (by kernel_rfl) (by kernel_rfl) rfl (by decide +kernel) HB.drew ?_
    intro kne
    simp only [pickAt]
    repeat (first | ((first | (refine wpQuiet_la _ _ rfl bm (0) rfl rfl (by decide +kernel) (machL A M) (by kernel_rfl) (fun w hC => hC.range) ?_)); simp only [Act.put, List.setIfInBounds_toArray, List.set_cons_zero, List.set_cons_succ]) | go_big_quiet_step (fail))
    refine wpQuiet_nil ?_
    clear kne HB
    replace HS := hide HS.out.drew
    generalize W.drew = Wd at *
    refine wpMid_op rfl fun K hK => ?_
    go_big_op
    refine (hHere.out _ HS.out.below).mono ?_
    rintro e W1 ⟨rfl, hb⟩
    rw [hh.out]
    replace HS := hide (HS.out.on hb)
    clear hb hHere
    have HB := HS.out.blk 0 rfl
    refine hK _ _ (InC.mk HB) ?_
    clear hK K
    have kne : Nonempty (Cls fun w' => Blk w' bm (machL A M)) := ⟨⟨_, HB⟩⟩
    (try simp only [Act.put, List.setIfInBounds_toArray, List.set_cons_zero, List.set_cons_succ])
    repeat (first | go_big_quiet_skip | ((first | (refine wpQuiet_ld _ _ rfl ⟨bm, 9, none⟩ rfl rfl (by decide +kernel) (fun w hC => hC.cell 9 _ rfl) ?_)); simp only [Act.put, List.setIfInBounds_toArray, List.set_cons_zero, List.set_cons_succ]) | go_big_quiet_step (fail))
    refine wpQuiet_nil ?_
    refine NoPanic.normal ?_
    go_wp2
    go_ret
    exact ⟨ret_bool eL.out.symm, HS.out.below⟩
  · obtain ⟨hmay, k, rfl, hk0⟩ := hereP_yes hh
    have hk : k < A.s.n := by have := hX.out; omega
    have i2 : (k : Int) < (A.s.n : Int) := by omega
    have hsI : SessIs W (A.q k) (M.at k) := (HM.out.below HS.out.below).sess.2.2.2 k hk
    have hT : (M.at k).tn = (A.q k).t.n := hsI.2.2.2.len (by decide)
    have eL : Hid (leftP M k s = (decide (lz (M.at k).num 3 = s) && decide (lz (M.at k).num 9 < ((A.q k).t.n : Int)))) := by
      show leftP M k s = _
      unfold leftP; rw [hh, Int.toNat_natCast, hT]; rfl
    replace hh := hide hh
    obtain ⟨bs, off, hbs, hbl, hR⟩ := (HM.out.below HS.out.below).sess.range hk
    have c4 : W.cell? ⟨bs, off + k * 17 + 4, none⟩ = some (.int .i64 (lz (M.at k).num 3)) := hR 4 _ rfl
    have c12 : W.cell? ⟨bs, off + k * 17 + 12, none⟩ = some (.int .i64 (lz (M.at k).num 9)) := hR 12 _ rfl
    have c11 : W.cell? ⟨bs, off + k * 17 + 11, none⟩ = some (.slice (A.q k).t.a (A.q k).t.n (A.q k).t.c) := hR 11 _ rfl
    have hcs : Hid (∀ W', Below w.heap.size w W' → W'.cell? ⟨bs, off + k * 17 + 4, none⟩ = some (.int .i64 (lz (M.at k).num 3)) ∧ W'.cell? ⟨bs, off + k * 17 + 12, none⟩ = some (.int .i64 (lz (M.at k).num 9)) ∧ W'.cell? ⟨bs, off + k * 17 + 11, none⟩ = some (.slice (A.q k).t.a (A.q k).t.n (A.q k).t.c)) := fun W' hb => by
      obtain ⟨bs', off', hbs', _, hR'⟩ := (HM.out.below hb).sess.range hk
      rw [hbs] at hbs'; cases hbs'
      exact ⟨hR' 4 _ rfl, hR' 12 _ rfl, hR' 11 _ rfl⟩
    obtain ⟨st, hst⟩ : ∃ st, st = lz (M.at k).num 3 := ⟨_, rfl⟩
    obtain ⟨ia, hia⟩ : ∃ ia, ia = lz (M.at k).num 9 := ⟨_, rfl⟩
    rw [← hst] at eL c4 hcs
    rw [← hia] at eL c12 hcs
    clear hst hia hsI hT hR hmay
    by_cases hs : st = s
    · have hs1 := hide hs
      have e1 : (st == s) = true := by rw [hs1.out]; exact beq_self_eq_true s
      clear hs
      by_cases hlt : ia < ((A.q k).t.n : Int)
      · (try simp only [Act.put, List.setIfInBounds_toArray, List.set_cons_zero, List.set_cons_succ])
        refine wp_region_mid [true, true, false, false, false, false, false, false, false, false, false, false, false, false, false, false, false, false, false, false, false, false, false, false, false, false, false, false, false, false] 2 _ [false, false, false, true, true, true, true, true, true, true, true, true, true, true, true, true, true, true, true, true, true, true, true, true, true, true, true, true, true, true] (fun w' => Blk w' bm (machL A M) ∧ w'.cell? ⟨bs, off + k * 17 + 4, none⟩ = some (.int .i64 st) ∧ w'.cell? ⟨bs, off + k * 17 + 12, none⟩ = some (.int .i64 ia) ∧ w'.cell? ⟨bs, off + k * 17 + 11, none⟩ = some (.slice (A.q k).t.a (A.q k).t.n (A.q k).t.c)) (by kernel_rfl) (by kernel_rfl) (by kernel_rfl) rfl (by decide +kernel) ⟨HB.drew, c4, c12, c11⟩ ?_
        intro kne
        simp only [pickAt]
        repeat (first | ((first | (refine wpQuiet_la _ _ rfl bm (0) rfl rfl (by decide +kernel) (machL A M) (by kernel_rfl) (fun w hC => hC.1.range) ?_)); simp only [Act.put, List.setIfInBounds_toArray, List.set_cons_zero, List.set_cons_succ]) | go_big_quiet_step (fail))
        refine wpQuiet_nil ?_
        clear HB c4 c12 c11
        replace HS := hide HS.out.drew
        generalize W.drew = Wd at *
        refine wpMid_op rfl fun K hK => ?_
        go_big_op
        refine (hHere.out _ HS.out.below).mono ?_
        rintro e W1 ⟨rfl, hb⟩
        rw [hh.out]
        replace HS := hide (HS.out.on hb)
        clear hb hHere
        refine hK _ _ (InC.mk ⟨HS.out.blk 0 rfl, hcs.out _ HS.out.below⟩) ?_
        clear hK K
        (try simp only [Act.put, List.setIfInBounds_toArray, List.set_cons_zero, List.set_cons_succ])
        repeat (first | go_big_quiet_skip | ((first | (refine wpQuiet_ld _ _ rfl ⟨bm, 9, none⟩ rfl rfl (by decide +kernel) (fun w hC => hC.1.cell 9 _ rfl) ?_) | (refine wpQuiet_ld _ _ rfl ⟨bs, off + k * 17 + 4, none⟩ rfl rfl (by decide +kernel) (fun w hC => hC.2.1) ?_) | (refine wpQuiet_ld _ _ rfl ⟨bs, off + k * 17 + 12, none⟩ rfl rfl (by decide +kernel) (fun w hC => hC.2.2.1) ?_) | (refine wpQuiet_ld _ _ rfl ⟨bs, off + k * 17 + 11, none⟩ rfl rfl (by decide +kernel) (fun w hC => hC.2.2.2) ?_)); simp only [Act.put, List.setIfInBounds_toArray, List.set_cons_zero, List.set_cons_succ]) | go_big_quiet_step (fail))
        refine wpQuiet_nil ?_
        refine NoPanic.normal ?_
        go_wp2
        go_ret
        exact ⟨ret_bool (by rw [eL.out]; rw [decide_eq_true hs1.out, decide_eq_true hlt]; rfl), HS.out.below⟩
      · (try simp only [Act.put, List.setIfInBounds_toArray, List.set_cons_zero, List.set_cons_succ])
        refine wp_region_mid [true, true, false, false, false, false, false, false, false, false, false, false, false, false, false, false, false, false, false, false, false, false, false, false, false, false, false, false, false, false] 2 _ [false, false, false, true, true, true, true, true, true, true, true, true, true, true, true, true, true, true, true, true, true, true, true, true, true, true, true, true, true, true] (fun w' => Blk w' bm (machL A M) ∧ w'.cell? ⟨bs, off + k * 17 + 4, none⟩ = some (.int .i64 st) ∧ w'.cell? ⟨bs, off + k * 17 + 12, none⟩ = some (.int .i64 ia) ∧ w'.cell? ⟨bs, off + k * 17 + 11, none⟩ = some (.slice (A.q k).t.a (A.q k).t.n (A.q k).t.c)) (by kernel_rfl) (by kernel_rfl) (by kernel_rfl) rfl (by decide +kernel) ⟨HB.drew, c4, c12, c11⟩ ?_
        intro kne
        simp only [pickAt]
        repeat (first | ((first | (refine wpQuiet_la _ _ rfl bm (0) rfl rfl (by decide +kernel) (machL A M) (by kernel_rfl) (fun w hC => hC.1.range) ?_)); simp only [Act.put, List.setIfInBounds_toArray, List.set_cons_zero, List.set_cons_succ]) | go_big_quiet_step (fail))
        refine wpQuiet_nil ?_
        clear HB c4 c12 c11
        replace HS := hide HS.out.drew
        generalize W.drew = Wd at *
        refine wpMid_op rfl fun K hK => ?_
        go_big_op
        refine (hHere.out _ HS.out.below).mono ?_
        rintro e W1 ⟨rfl, hb⟩
        rw [hh.out]
        replace HS := hide (HS.out.on hb)
        clear hb hHere
        refine hK _ _ (InC.mk ⟨HS.out.blk 0 rfl, hcs.out _ HS.out.below⟩) ?_
        clear hK K
        (try simp only [Act.put, List.setIfInBounds_toArray, List.set_cons_zero, List.set_cons_succ])
        repeat (first | go_big_quiet_skip | ((first | (refine wpQuiet_ld _ _ rfl ⟨bm, 9, none⟩ rfl rfl (by decide +kernel) (fun w hC => hC.1.cell 9 _ rfl) ?_) | (refine wpQuiet_ld _ _ rfl ⟨bs, off + k * 17 + 4, none⟩ rfl rfl (by decide +kernel) (fun w hC => hC.2.1) ?_) | (refine wpQuiet_ld _ _ rfl ⟨bs, off + k * 17 + 12, none⟩ rfl rfl (by decide +kernel) (fun w hC => hC.2.2.1) ?_) | (refine wpQuiet_ld _ _ rfl ⟨bs, off + k * 17 + 11, none⟩ rfl rfl (by decide +kernel) (fun w hC => hC.2.2.2) ?_)); simp only [Act.put, List.setIfInBounds_toArray, List.set_cons_zero, List.set_cons_succ]) | go_big_quiet_step (fail))
        refine wpQuiet_nil ?_
        refine NoPanic.normal ?_
        go_wp2
        go_ret
        exact ⟨ret_bool (by rw [eL.out]; rw [decide_eq_false (by omega : ¬ ia < ((A.q k).t.n : Int)), Bool.and_false]), HS.out.below⟩
    · have e1 : (st == s) = false := by simpa using hs
      replace hs := hide hs
      by_cases hlt : ia < ((A.q k).t.n : Int)
      all_goals
        (try simp only [Act.put, List.setIfInBounds_toArray, List.set_cons_zero, List.set_cons_succ])
        refine wp_region_mid [true, true, false, false, false, false, false, false, false, false, false, false, false, false, false, false, false, false, false, false, false, false, false, false, false, false, false, false, false, false] 2 _ [false, false, false, true, true, true, true, true, true, true, true, true, true, true, true, true, true, true, true, true, true, true, true, true, true, true, true, true, true, true] (fun w' => Blk w' bm (machL A M) ∧ w'.cell? ⟨bs, off + k * 17 + 4, none⟩ = some (.int .i64 st) ∧ w'.cell? ⟨bs, off + k * 17 + 12, none⟩ = some (.int .i64 ia) ∧ w'.cell? ⟨bs, off + k * 17 + 11, none⟩ = some (.slice (A.q k).t.a (A.q k).t.n (A.q k).t.c)) (by kernel_rfl) (by kernel_rfl) (by kernel_rfl) rfl (by decide +kernel) ⟨HB.drew, c4, c12, c11⟩ ?_
        intro kne
        simp only [pickAt]
        repeat (first | ((first | (refine wpQuiet_la _ _ rfl bm (0) rfl rfl (by decide +kernel) (machL A M) (by kernel_rfl) (fun w hC => hC.1.range) ?_)); simp only [Act.put, List.setIfInBounds_toArray, List.set_cons_zero, List.set_cons_succ]) | go_big_quiet_step (fail))
        refine wpQuiet_nil ?_
        clear HB c4 c12 c11
        replace HS := hide HS.out.drew
        generalize W.drew = Wd at *
        refine wpMid_op rfl fun K hK => ?_
        go_big_op
        refine (hHere.out _ HS.out.below).mono ?_
        rintro e W1 ⟨rfl, hb⟩
        rw [hh.out]
        replace HS := hide (HS.out.on hb)
        clear hb hHere
        refine hK _ _ (InC.mk ⟨HS.out.blk 0 rfl, hcs.out _ HS.out.below⟩) ?_
        clear hK K
        (try simp only [Act.put, List.setIfInBounds_toArray, List.set_cons_zero, List.set_cons_succ])
        repeat (first | go_big_quiet_skip | ((first | (refine wpQuiet_ld _ _ rfl ⟨bm, 9, none⟩ rfl rfl (by decide +kernel) (fun w hC => hC.1.cell 9 _ rfl) ?_) | (refine wpQuiet_ld _ _ rfl ⟨bs, off + k * 17 + 4, none⟩ rfl rfl (by decide +kernel) (fun w hC => hC.2.1) ?_) | (refine wpQuiet_ld _ _ rfl ⟨bs, off + k * 17 + 12, none⟩ rfl rfl (by decide +kernel) (fun w hC => hC.2.2.1) ?_) | (refine wpQuiet_ld _ _ rfl ⟨bs, off + k * 17 + 11, none⟩ rfl rfl (by decide +kernel) (fun w hC => hC.2.2.2) ?_)); simp only [Act.put, List.setIfInBounds_toArray, List.set_cons_zero, List.set_cons_succ]) | go_big_quiet_step (fail))
        refine wpQuiet_nil ?_
        refine NoPanic.normal ?_
        go_wp2
        go_ret
        exact ⟨ret_bool (by rw [eL.out]; rw [decide_eq_false hs.out, Bool.false_and]), HS.out.below⟩
end Go.Proofs.YtnjognmnbpcaaaaGreat
namespace Go.Proofs.YtnjognmnbpcaaaaGreat
open Go.RowKit
set_option linter.unusedSimpArgs false
set_option linter.unusedVariables false
/-- A list of its own, that an append may go on with, holding the same. -/
def CopyRet (e : TypeId) (k : Nat) (s : Sl) (L : List Int) (w : World) (E : Ending) (w' : World) : Prop :=
  ∃ (D' : Nat → Prop) (s' : Sl), E = .returned (.slice s'.a s'.n s'.c) ∧ s'.n = s.n ∧ ListOwn D' e k w' s' L ∧ (∀ g, D' g → w.heap.size ≤ g ∧ g < w'.heap.size) ∧ Below w.heap.size w w'
set_option maxRecDepth 100000 in
set_option maxHeartbeats 1000000 in
theorem anewInst_any (s : Sl) (L : List Int) (w : World) (h : SlIs w 4 s L) :
    Calls Tryz.prog 40 #[.slice s.a s.n s.c] w (CopyRet 47 4 s L w) := by
  have HS := hide (St.refl w)
  have H := hide h
  clear h
  go_enter Tryz.func40, Tryz.ntmps40
  go_wp2_with (first | ((with_reducible refine isList ?_); first | (refine st_copyN HS 47 H.out rfl _ _ _ rfl _ _ Tryz.underlying40 Tryz.infoInst rfl (by decide) rfl rfl rfl ?_; clear HS; intro W D' s' hn HS)))
  go_ret
  exact ⟨D', s', rfl, hn.out, HS.out.get 0 (x := slI D' 47 4 s' L) rfl, (HS.out.here 0 _ rfl).2.2, HS.out.below⟩
set_option maxRecDepth 100000 in
set_option maxHeartbeats 1000000 in
theorem anewRead_any (s : Sl) (L : List Int) (w : World) (h : SlIs w 3 s L) :
    Calls Tryz.prog 41 #[.slice s.a s.n s.c] w (CopyRet 82 3 s L w) := by
  have HS := hide (St.refl w)
  have H := hide h
  clear h
  go_enter Tryz.func41, Tryz.ntmps41
  go_wp2_with (first | ((with_reducible refine isList ?_); first | (refine st_copyN HS 82 H.out rfl _ _ _ rfl _ _ Tryz.underlying41 Tryz.infoRead rfl (by decide) rfl rfl rfl ?_; clear HS; intro W D' s' hn HS)))
  go_ret
  exact ⟨D', s', rfl, hn.out, HS.out.get 0 (x := slI D' 82 3 s' L) rfl, (HS.out.here 0 _ rfl).2.2, HS.out.below⟩
set_option maxRecDepth 100000 in
set_option maxHeartbeats 1000000 in
theorem anewWrite_any (s : Sl) (L : List Int) (w : World) (h : SlIs w 3 s L) :
    Calls Tryz.prog 42 #[.slice s.a s.n s.c] w (CopyRet 85 3 s L w) := by
  have HS := hide (St.refl w)
  have H := hide h
  clear h
  go_enter Tryz.func42, Tryz.ntmps42
  go_wp2_with (first | ((with_reducible refine isList ?_); first | (refine st_copyN HS 85 H.out rfl _ _ _ rfl _ _ Tryz.underlying42 Tryz.infoWrite rfl (by decide) rfl rfl rfl ?_; clear HS; intro W D' s' hn HS)))
  go_ret
  exact ⟨D', s', rfl, hn.out, HS.out.get 0 (x := slI D' 85 3 s' L) rfl, (HS.out.here 0 _ rfl).2.2, HS.out.below⟩
set_option maxRecDepth 100000 in
set_option maxHeartbeats 1000000 in
theorem anewEvent_any (s : Sl) (L : List Int) (w : World) (h : SlIs w 4 s L) :
    Calls Tryz.prog 43 #[.slice s.a s.n s.c] w (CopyRet 88 4 s L w) := by
  have HS := hide (St.refl w)
  have H := hide h
  clear h
  go_enter Tryz.func43, Tryz.ntmps43
  go_wp2_with (first | ((with_reducible refine isList ?_); first | (refine st_copyN HS 88 H.out rfl _ _ _ rfl _ _ Tryz.underlying26 Tryz.infoEvent rfl (by decide) rfl rfl rfl ?_; clear HS; intro W D' s' hn HS)))
  go_ret
  exact ⟨D', s', rfl, hn.out, HS.out.get 0 (x := slI D' 88 4 s' L) rfl, (HS.out.here 0 _ rfl).2.2, HS.out.below⟩
theorem sessOf_one (q : SesM) (x : PSess) {j : Nat} (hj : j < 17) : ((sessOf q x).getD j undef).oneCell' = true := by
  have : j = 0 ∨ j = 1 ∨ j = 2 ∨ j = 3 ∨ j = 4 ∨ j = 5 ∨ j = 6 ∨ j = 7 ∨ j = 8 ∨ j = 9 ∨ j = 10 ∨ j = 11 ∨ j = 12 ∨ j = 13 ∨ j = 14 ∨ j = 15 ∨ j = 16 := by omega
  rcases this with rfl | rfl | rfl | rfl | rfl | rfl | rfl | rfl | rfl | rfl | rfl | rfl | rfl | rfl | rfl | rfl | rfl <;> rfl
/-- The sessions' cells in a block of their own; their lists are those that were there. -/
def SesRet (s : Sl) (q : Nat → SesM) (X : List PSess) (w : World) (E : Ending) (w' : World) : Prop :=
  ∃ x : Sl, E = .returned (.slice x.a x.n x.c) ∧ x.n = s.n ∧ ((x.a = none → x.n = 0 ∧ x.c = 0) ∧ x.n ≤ x.c) ∧ (0 < x.n → ∃ b, x.a = some ⟨b, 0, none⟩ ∧ w.heap.size ≤ b ∧ b < w'.heap.size ∧ Own w' b (x.n * 17) (sessCell q X)) ∧ Below w.heap.size w w'
set_option maxRecDepth 100000 in
set_option maxHeartbeats 1000000 in
theorem anewSession_any (s : Sl) (q : Nat → SesM) (X : List PSess) (w : World) (h : SesIs w s q X) :
    Calls Tryz.prog 39 #[.slice s.a s.n s.c] w (SesRet s q X w) := by
  obtain ⟨i0, hi, hz0, hz1, hz2⟩ := info_parts Tryz.infoSess
  obtain ⟨hX, ⟨hb8, hsc, ha⟩, hr, _⟩ := h
  obtain ⟨sa, sn, sc⟩ := s
  replace hb8 : sn * 184 ≤ 140737488351232 := hb8
  go_enter Tryz.func39, Tryz.ntmps39
  cases sa with
  | none =>
    obtain ⟨rfl, rfl⟩ := ha rfl
    go_wp2
    go_ret
    exact ⟨⟨none, 0, 0⟩, rfl, rfl, ⟨fun _ => ⟨rfl, rfl⟩, Nat.le_refl _⟩, fun h => absurd h (Nat.lt_irrefl 0), Below.refl _ _⟩
  | some ad =>
    have hown : w.ownsRow w.heap.size 44 17 (.slice none 0 0) 0 [] := World.ownsRow_nil _ _ _ _
    have HO := hide hown
    have HR := hide (Row.news hr)
    have HL := hide (rowL_len (sessCell q X) (sn * 17))
    have H1 := hide (rowL_one (f := sessCell q X) (m := sn * 17) fun i _ => sessOf_one _ _ (Nat.mod_lt _ (by decide)))
    clear hown hr ha hX hsc
    go_wp2_with (at_builtin; refine wpList_append_own _ rfl (.const (.slice none 0 0)) (.tmp 3) 25 rfl w.heap.size 44 i0 (.agg zeroSL.toArray) 17 184 Tryz.underlying25 hi hz0 hz1 hz2 rfl (by decide) _ _ _ rfl (unhide HO) ad sn sc (rowL (sessCell q X) (sn * 17)) rfl (unhide HL) (unhide HR) (unhide H1) ?_ ?_ ?_ ?_)
    · unfold maxLen; omega
    · omega
    · intro v' w1 hown' hg _
      have hown2 : w1.ownsRow w.heap.size 44 17 v' sn (rowL (sessCell q X) (sn * 17)) := by simpa using hown'
      have bw : Below w.heap.size w w1 := (Below.refl w.heap.size w).grown hg (Nat.le_refl _) (by intro j hj; simp [Value.ownBlock] at hj)
      obtain ⟨x, rfl, hxn, hxy, hxo⟩ : ∃ x : Sl, v' = .slice x.a x.n x.c ∧ x.n = sn ∧ ((x.a = none → x.n = 0 ∧ x.c = 0) ∧ x.n ≤ x.c) ∧ (0 < x.n → ∃ b, x.a = some ⟨b, 0, none⟩ ∧ w.heap.size ≤ b ∧ b < w1.heap.size ∧ Own w1 b (sn * 17) (sessCell q X)) := by
        rcases own_of_owns hown2 with ⟨rfl, h0⟩ | ⟨g, cap, rfl, hg1, hg2, hg3, ho⟩
        · exact ⟨⟨none, 0, 0⟩, rfl, h0.symm, ⟨fun _ => ⟨rfl, rfl⟩, Nat.le_refl _⟩, fun h => absurd h (Nat.lt_irrefl 0)⟩
        · exact ⟨⟨some ⟨g, 0, none⟩, sn, cap⟩, rfl, rfl, ⟨(fun h => by cases h), hg2⟩, fun _ => ⟨g, rfl, hg1, ho.lt, ho⟩⟩
      clear hown' hown2 HO HR HL H1
      go_wp2
      go_ret
      exact ⟨x, rfl, hxn, hxy, fun h0 => by rw [hxn]; exact hxo h0, bw⟩
end Go.Proofs.YtnjognmnbpcaaaaGreat
namespace Go.Proofs.YtnjognmnbpcaaaaGreat
open Go.RowKit
set_option linter.unusedSimpArgs false
set_option linter.unusedVariables false
section
variable {w0 w : World} {L : List Itm} {P : Program} {ops : Array Oper} {rest : List Oper} {op : Oper} {a : Act} {K : Act → World → Prop} {Q : Exit → Act → World → Prop} {D D2 : Nat → Prop} {A : MacM} {M : PMach}
theorem stw_storeH (HS : Hid (St w0 w L)) (i i2 : Nat) {k : Nat} (j : Nat) (hj : j < 3) (ei : L[i]? = some (halfI D A M (6 + 3 * k + j))) {bs : Nat} {s : Sl} (e2 : L[i2]? = some (lisI D2 (szL j) s ((M.at k).li j))) (hne : i ≠ i2) (hk : k < A.s.n) (hbs : A.s.a = some ⟨bs, 0, none⟩) (ty : TypeId) (x y : Operand) (ho : op.op = .store ty x y) (o : Nat) (hx : a.eval x = .pointer (some ⟨bs, o, none⟩)) (ho' : o = k * 17 + posL j)
    (hy : ValOf a y (.slice s.a s.n s.c)) (hi : (P.info? ty).map (·.size) = some 1) (hw : ∀ W, Hid (St w0 W ((L.set i2 empI).set i (halfI (fun k => D k ∨ D2 k) (A.setQ k ((A.q k).setL j s)) M (6 + 3 * k + j + 1)))) → K (a.put op.dst undef) W) : op.wp P a w K Q := by
  have hM : 6 ≤ 6 + 3 * k + j ∧ HalfOwn D w A M (6 + 3 * k + j) := HS.out.get i ei
  have hL : SlIs w (szL j) s ((M.at k).li j) ∧ SlOwn D2 w s := HS.out.get i2 e2
  have hp : posL j < 17 := by unfold posL; split <;> omega
  have h4 : 0 < (A.sl 4).n := by rw [A.sl_s]; omega
  obtain ⟨b, eb, hD, l1, hl⟩ := hM.2.own 4 (by omega) (by omega) h4
  rw [A.sl_s, hbs] at eb; cases eb
  obtain ⟨b2, off, e3, hlt, hcc⟩ := hM.2.row (k * 17 + posL j) (by omega)
  rw [hbs] at e3; cases e3
  rw [Nat.zero_add] at hcc
  subst ho'
  have hdis : ∀ k, D k → D2 k → False := HS.out.apart i i2 _ _ ei e2 hne
  have l1' := halfI_loc D A M (6 + 3 * k + j)
  have l2' := lisI_loc D2 (szL j) s ((M.at k).li j)
  have HG := HS.out.give i i2 ei e2 hne (x' := ⟨fun k => D k ∨ D2 k, fun W => (6 ≤ 6 + 3 * k + j ∧ HalfOwn D W A M (6 + 3 * k + j)) ∧ (SlIs W (szL j) s ((M.at k).li j) ∧ SlOwn D2 W s)⟩) (fun W W' h hs hk => ⟨l1' W W' h.1 hs fun k hk' => hk k (.inl hk'), l2' W W' h.2 hs fun k hk' => hk k (.inr hk')⟩) ⟨hM, hL⟩ fun k hk => hk
  have hiL : i < L.length := (List.getElem?_eq_some_iff.1 ei).1
  have hg : ((L.set i (⟨fun k => D k ∨ D2 k, fun W => (6 ≤ 6 + 3 * k + j ∧ HalfOwn D W A M (6 + 3 * k + j)) ∧ (SlIs W (szL j) s ((M.at k).li j) ∧ SlOwn D2 W s)⟩ : Itm)).set i2 empI)[i]? = some ⟨fun k => D k ∨ D2 k, fun W => (6 ≤ 6 + 3 * k + j ∧ HalfOwn D W A M (6 + 3 * k + j)) ∧ (SlIs W (szL j) s ((M.at k).li j) ∧ SlOwn D2 W s)⟩ := by
    rw [List.getElem?_set, if_neg (Ne.symm hne), List.getElem?_set, if_pos rfl, if_pos hiL]
  have HT := HG.set i hg (halfI (fun k => D k ∨ D2 k) (A.setQ k ((A.q k).setL j s)) M (6 + 3 * k + j + 1)) (W' := w.setCell ⟨bs, k * 17 + posL j, none⟩ (.slice s.a s.n s.c)) (chg_set (.inl hD)) (halfI_loc _ _ _ _) ⟨by omega, hM.2.turn hk hj hbs hL.1 hL.2 hdis⟩ fun k hk => .inl hk
  have eq : ((L.set i (⟨fun k => D k ∨ D2 k, fun W => (6 ≤ 6 + 3 * k + j ∧ HalfOwn D W A M (6 + 3 * k + j)) ∧ (SlIs W (szL j) s ((M.at k).li j) ∧ SlOwn D2 W s)⟩ : Itm)).set i2 empI).set i (halfI (fun k => D k ∨ D2 k) (A.setQ k ((A.q k).setL j s)) M (6 + 3 * k + j + 1)) = (L.set i2 empI).set i (halfI (fun k => D k ∨ D2 k) (A.setQ k ((A.q k).setL j s)) M (6 + 3 * k + j + 1)) := by
    rw [List.set_comm _ _ hne, List.set_set]
  rw [eq] at HT
  unfold Oper.wp execOp
  simp only [ho, hx, hy.eval, Instr.storeAt, Instr.sureAddr, Sem.run_bind, Sem.run_pure, Result.andThen_ok, run_storeVar_one w ⟨bs, k * 17 + posL j, none⟩ ty _ (.slice s.a s.n s.c) hcc (hl.frozen _) rfl hi]
  exact hw _ HT
end
/-- Its words' lists alone. -/
structure WordsOwn (D : Nat → Prop) (W : World) (t : Nat → Sl) (M : PMach) : Prop where
  is : ∀ g, g < 4 → SlIs W 3 (t g) (M.lv g)
  own : ∀ g, g < 4 → SlOwn D W (t g)
  apart : ∀ g g', g < g' → g' < 4 → 0 < (t g).n → 0 < (t g').n → (t g).a ≠ (t g').a
def wordsI (D : Nat → Prop) (t : Nat → Sl) (M : PMach) : Itm := ⟨D, fun W => WordsOwn D W t M⟩
theorem wordsI_loc (D : Nat → Prop) (t : Nat → Sl) (M : PMach) : (wordsI D t M).Loc := fun W W' h hs hk => by
  obtain ⟨h1, h2, h3⟩ := (h : WordsOwn D W t M)
  refine ⟨fun g hg => (h1 g hg).keep hs fun h0 b o e => ?_, fun g hg => (h2 g hg).keep hk, h3⟩
  obtain ⟨b2, e2, hD, _⟩ := h2 g hg h0
  rw [e2] at e; cases e
  exact hk _ hD
theorem words_of {W : World} {B C : Nat} {t : Nat → Sl} {A : MacM} {M : PMach} {W0 : World} (h : MachIs W0 A M) (hn : ∀ g, g < 4 → (t g).n = (A.w g).n) (hy : Nilly t) (hF : Fresh B C W t M.wz 4) : WordsOwn (fun k => B ≤ k ∧ k < C) W t M := by
  obtain ⟨β, h1, h2⟩ := hF
  refine ⟨fun g hg => ?_, fun g hg h0 => ?_, fun g g' hgg hg h0 h0' e => ?_⟩
  · obtain ⟨l1, l2, _⟩ := h.words g hg
    refine ⟨by rw [hn g hg]; exact l1, ⟨by rw [hn g hg]; exact l2.1, (hy g).2, (hy g).1⟩, fun i hi => ?_⟩
    obtain ⟨e, _, _, ho⟩ := h1 g hg (Nat.pos_of_mul_pos_right (by omega : 0 < (t g).n * 3))
    obtain ⟨b', off, e', hb, hc⟩ := ho.row i hi
    exact ⟨b', off, e.trans e', hb, hc⟩
  · obtain ⟨e, hB, hC, l, hl, _⟩ := h1 g hg h0
    exact ⟨_, e, ⟨hB, hC⟩, l, hl⟩
  · have := h2 g g' hgg hg h0 h0'
    rw [(h1 g (by omega) h0).1, (h1 g' hg h0').1] at e
    simp only [Option.some.injEq, Addr.mk.injEq] at e
    omega
/-- The words' lists and the sessions': a machine in the making. -/
theorem half_start {D D2 : Nat → Prop} {W W0 : World} {A : MacM} {M : PMach} {t : Nat → Sl} {x : Sl} (h : MachIs W0 A M) (hw : WordsOwn D W t M) (hn : x.n = A.s.n) (hy : (x.a = none → x.n = 0 ∧ x.c = 0) ∧ x.n ≤ x.c) (ho : 0 < x.n → ∃ b, x.a = some ⟨b, 0, none⟩ ∧ D2 b ∧ Own W b (x.n * 17) (sessCell A.q M.sess)) (hD : ∀ k, D k → D2 k → False) :
    HalfOwn (fun k => D k ∨ D2 k) W { A with w := t, s := x } M 6 := by
  have slw : ∀ m, m < 4 → ({ A with w := t, s := x } : MacM).sl m = t m := fun m hm => by unfold MacM.sl; rw [if_pos hm]
  have sl4 : ({ A with w := t, s := x } : MacM).sl 4 = x := rfl
  refine ⟨hw.is, by rw [h.sess.1]; exact hn.symm, ⟨by show x.n * 184 ≤ _; rw [hn]; exact h.sess.2.1.1, hy.2, hy.1⟩, fun i hi => ?_, fun i j hj hm => absurd hm (by omega), fun m hm h5 => ?_, fun m m' hmm hm' h5 h5' h0 h0' => ?_⟩
  · have hi : i < x.n * 17 := hi
    obtain ⟨b, e, _, hO⟩ := ho (Nat.pos_of_mul_pos_right (by omega : 0 < x.n * 17))
    obtain ⟨b', off, e', hb, hc⟩ := hO.row i hi
    exact ⟨b', off, e.trans e', hb, hc⟩
  · by_cases h4 : m = 4
    · subst h4
      rw [sl4]
      intro h0
      obtain ⟨b, e, hDb, l, hl, _⟩ := ho h0
      exact ⟨b, e, .inr hDb, l, hl⟩
    · rw [slw m (by omega)]
      exact (hw.own m (by omega)).mono fun k hk => .inl hk
  · by_cases h4 : m' = 4
    · subst h4
      rw [slw m (by omega)] at h0 ⊢
      rw [sl4] at h0' ⊢
      obtain ⟨b, e, hDb, _⟩ := ho h0'
      obtain ⟨b2, e2, hD2, _⟩ := hw.own m (by omega) h0
      intro hh
      rw [e, e2] at hh; cases hh
      exact hD _ hD2 hDb
    · rw [slw m (by omega)] at h0 ⊢
      rw [slw m' (by omega)] at h0' ⊢
      exact hw.apart m m' hmm (by omega) h0 h0'
end Go.Proofs.YtnjognmnbpcaaaaGreat
namespace Go.Proofs.YtnjognmnbpcaaaaGreat
open Go.RowKit
set_option linter.unusedSimpArgs false
set_option linter.unusedVariables false
theorem half_cell {D : Nat → Prop} {W : World} {A : MacM} {M : PMach} {N k bs c : Nat} (h : HalfOwn D W A M N) (hk : k < A.s.n) (hbs : A.s.a = some ⟨bs, 0, none⟩) (hc : c < 17) {v : Value} (hv : (sessOf (A.q k) (M.at k))[c]? = some v) : W.cell? ⟨bs, k * 17 + c, none⟩ = some v := by
  obtain ⟨b2, off, e2, _, hcc⟩ := h.row (k * 17 + c) (by omega)
  rw [hbs] at e2; cases e2
  rw [Nat.zero_add] at hcc
  rw [hcc]
  unfold sessCell
  rw [show (k * 17 + c) / 17 = k by omega, show (k * 17 + c) % 17 = c by omega]
  show some ((sessOf (A.q k) (M.at k)).getD c undef) = some v
  rw [List.getD_eq_getElem?_getD, hv]
  rfl
/-- The sessions' cells in a block of their own. -/
def rowsI (D : Nat → Prop) (x : Sl) (f : Nat → Value) : Itm := ⟨D, fun W => 0 < x.n → ∃ b, x.a = some ⟨b, 0, none⟩ ∧ D b ∧ Own W b (x.n * 17) f⟩
theorem rowsI_loc (D : Nat → Prop) (x : Sl) (f : Nat → Value) : (rowsI D x f).Loc := fun W W' h hs hk h0 => by
  obtain ⟨b, e, hD, l, ⟨t, hl⟩, hf⟩ := h h0
  exact ⟨b, e, hD, l, ⟨t, by rw [hk b hD]; exact hl⟩, hf⟩
set_option maxRecDepth 100000 in
set_option maxHeartbeats 4000000 in
theorem anewMachine_any (A : MacM) (M : PMach) (w : World) (h : MachIs w A M) :
    Calls Tryz.prog 20 #[machA A M] w fun e w' => ∃ A', e = .returned (machA A' M) ∧ MachOwn (fun k => w.heap.size ≤ k ∧ k < w'.heap.size) w' A' M ∧ Below w.heap.size w w' := by
  have hX := hide h.sess.1
  have hn8 : A.s.n ≤ 1152921504606846976 := by have := h.sess.2.1.1; omega
  obtain ⟨V0, hV0⟩ : ∃ V0, V0 = machA A M := ⟨_, rfl⟩
  rw [← hV0]
  have HV : Hid (V0.cells = (machL A M).toArray) := by rw [hV0]; rfl
  clear hV0
  have HM := hide h
  have HS := hide (St.refl w)
  clear h
  go_enter Tryz.func20, Tryz.ntmps20
  go_wp2_with (first | ((with_reducible refine isList ?_); first | (refine st_box HS _ _ rfl rfl (machL A M) HV.out ?_; clear HS; intro W bm HS) | (refine st_alloc HS _ rfl rfl zeroML zeroM ?_; clear HS; intro W br HS) | (refine st_loadR HS 1 rfl _ _ rfl _ rfl rfl (by decide +kernel) (arenaL A.w) [.int .i64 (lz M.clocks 0), .int .i64 (lz M.clocks 1), .int .i64 (lz M.clocks 2), .int .i64 (lz M.clocks 3), .int .i64 M.ceil, .slice A.s.a A.s.n A.s.c, .slice A.e.a A.e.n A.e.c] (by kernel_rfl) rfl ?_)))
  refine (anewWords_any A.w M.wz _ (HM.out.below HS.out.below).fit (HM.out.below HS.out.below).arn).mono ?_
  rintro e W1 ⟨t, rfl, htn, hty, hF, hb⟩
  have HS1 := hide (HS.out.push hb (wordsI (fun k => _) t M) (wordsI_loc _ _ _) (words_of HM.out htn hty hF) fun k hk => hk)
  generalize (fun k => _) = D1 at HS1
  clear HS hb hF hty htn
  replace HS := HS1
  clear HS1
  go_upto_region 2 with (first | ((with_reducible refine isList ?_); first | (refine st_storeR HS 2 rfl _ _ _ rfl _ rfl rfl (arenaL t) rfl (Nat.le_of_ble_eq_true rfl) (by kernel_rfl) rfl ?_; clear HS; intro W HS)))
  replace HS : Hid (St w W [wordsI D1 t M, blkI br zeroML, blkI bm (machL { A with w := t } M)]) := HS
  go_wp2_with (first | ((with_reducible refine isList ?_); first | (refine st_load1 HS 2 rfl _ _ rfl _ rfl rfl (by decide +kernel) rfl ?_)))
  refine (anewSession_any A.s A.q M.sess _ (HM.out.below HS.out.below).sess).mono ?_
  rintro e W2 ⟨x, rfl, hxn, hxy, hxo, hb⟩
  have HS1 := hide (HS.out.push hb (rowsI (fun k => W.heap.size ≤ k ∧ k < W2.heap.size) x (sessCell A.q M.sess)) (rowsI_loc _ _ _) (fun h0 => by obtain ⟨b, e1, e2, e3, e4⟩ := hxo h0; exact ⟨b, e1, ⟨e2, e3⟩, e4⟩) fun k hk => hk)
  generalize (fun k => W.heap.size ≤ k ∧ k < W2.heap.size) = D2 at HS1
  have HS2 := hide (HS1.out.give 1 0 (x := wordsI D1 t M) (y := rowsI D2 x (sessCell A.q M.sess)) rfl rfl (by decide) (halfI (fun k => D1 k ∨ D2 k) { A with w := t, s := x } M 6) (halfI_loc _ _ _ _) ⟨by decide, half_start HM.out (HS1.out.get 1 (x := wordsI D1 t M) rfl) hxn hxy (HS1.out.get 0 (x := rowsI D2 x (sessCell A.q M.sess)) rfl) (HS1.out.apart 1 0 _ _ rfl rfl (by decide))⟩ fun k hk => hk)
  clear HS HS1 hb hxo hxy
  replace hxn := hide hxn
  replace HS : Hid (St w W2 [halfI (fun k => D1 k ∨ D2 k) { A with w := t, s := x } M 6, blkI br zeroML, blkI bm (machL { A with w := t } M)]) := hide HS2.out.tail
  clear HS2
  generalize (fun k => D1 k ∨ D2 k) = D at HS
  go_upto_region 3 with (first | ((with_reducible refine isList ?_); first | (refine st_store1 HS 2 rfl _ _ _ rfl _ rfl rfl rfl (by decide +kernel) rfl rfl ?_; clear HS; intro W HS)))
  replace HS : Hid (St w W [halfI D { A with w := t, s := x } M 6, blkI br zeroML, blkI bm (machL { A with w := t, s := x } M)]) := HS
  have hq : Hid (∀ j, (MacM.mk t x A.q A.e).q j = A.q j) := fun _ => rfl
  have he : Hid ((MacM.mk t x A.q A.e).e = A.e) := rfl
  have hsn : Hid ((MacM.mk t x A.q A.e).s.n = A.s.n) := hxn.out
  replace HS : Hid (St w W [halfI D (MacM.mk t x A.q A.e) M 6, blkI br zeroML, blkI bm (machL (MacM.mk t x A.q A.e) M)]) := HS
  clear hxn
  generalize MacM.mk t x A.q A.e = A1 at HS hq he hsn
  go_upto_region 4 with (first | ((with_reducible refine isList ?_); first | (refine st_load1 HS 2 rfl _ _ rfl _ rfl rfl (by decide +kernel) rfl ?_)))
  go_loopw [16] (fun i wr => ∃ (k : Nat) (D : Nat → Prop) (A2 : MacM), k ≤ A1.s.n ∧ i = .int .i64 k ∧ Hid (St w wr [halfI D A2 M (6 + 3 * k), blkI br zeroML, blkI bm (machL A1 M)]) ∧ Hid (A2.w = A1.w ∧ A2.s = A1.s ∧ A2.e = A1.e ∧ ∀ j, k ≤ j → A2.q j = A.q j)) (fun i _ => A1.s.n - (intOf i).toNat)
  case atStart => exact ⟨0, D, A1, Nat.zero_le _, rfl, HS, ⟨rfl, rfl, rfl, fun j _ => hq.out j⟩⟩
  case round =>
    obtain ⟨k, D, A2, hk, rfl, HS, hA⟩ := hrel
    by_cases hlt : k < A1.s.n
    · have i1 : (k : Int) < (A1.s.n : Int) := by omega
      have hkA : k < A.s.n := by have := hsn.out; omega
      have hn9 : A1.s.n ≤ 1152921504606846976 := by have := hsn.out; omega
      obtain ⟨w2, s2, q2, e2⟩ := A2
      obtain ⟨hA1, hA2, hA3, hA4⟩ := hA.out
      replace hA1 : w2 = A1.w := hA1
      replace hA2 : s2 = A1.s := hA2
      replace hA3 : e2 = A1.e := hA3
      replace hA4 : ∀ j, k ≤ j → q2 j = A.q j := hA4
      subst hA1 hA2 hA3
      have hqk := hA4 k (Nat.le_refl _)
      replace hA4 := hide hA4
      clear hA
      obtain ⟨bs1, hbs1, _⟩ := (HS.out.get 0 (x := halfI D ⟨A1.w, A1.s, q2, A1.e⟩ M (6 + 3 * k)) rfl).2.own 4 (by omega) (by decide) (show 0 < A1.s.n by omega)
      replace hbs1 : A1.s.a = some ⟨bs1, 0, none⟩ := hbs1
      have hP := hide fun (W : World) (hb : Below w.heap.size w W) => anewInst_any (A.q k).p (M.at k).prog W ((HM.out.below hb).sess.2.2.2 k hkA).2.1
      have hR := hide fun (W : World) (hb : Below w.heap.size w W) => anewRead_any (A.q k).r (M.at k).reads W ((HM.out.below hb).sess.2.2.2 k hkA).2.2.1
      have hT := hide fun (W : World) (hb : Below w.heap.size w W) => anewWrite_any (A.q k).t (M.at k).writes W ((HM.out.below hb).sess.2.2.2 k hkA).2.2.2
      rw [← hqk] at hP hR hT
      have hcl : Hid (∀ (W : World) (H : HalfOwn D W ⟨A1.w, A1.s, q2, A1.e⟩ M (6 + 3 * k)), W.cell? ⟨bs1, k * 17 + 3, none⟩ = some (.slice (q2 k).p.a (q2 k).p.n (q2 k).p.c) ∧ W.cell? ⟨bs1, k * 17 + 10, none⟩ = some (.slice (q2 k).r.a (q2 k).r.n (q2 k).r.c) ∧ W.cell? ⟨bs1, k * 17 + 11, none⟩ = some (.slice (q2 k).t.a (q2 k).t.n (q2 k).t.c)) := fun W H => ⟨half_cell H hlt hbs1 (by decide) rfl, half_cell H hlt hbs1 (by decide) rfl, half_cell H hlt hbs1 (by decide) rfl⟩
      replace hqk := hide hqk
      go_upto_region 7 with (first | ((with_reducible refine isList ?_); first | (refine st_load1 HS 2 rfl _ _ rfl _ rfl rfl (by decide +kernel) rfl ?_)))
      have C0 := hcl.out _ (HS.out.get 0 (x := halfI D ⟨A1.w, A1.s, q2, A1.e⟩ M (6 + 3 * k)) rfl).2
      (try simp only [Act.put, List.setIfInBounds_toArray, List.set_cons_zero, List.set_cons_succ])
      refine wp_region_pre [0, 1, 2, 3, 4, 5, 8, 9, 10, 13, 14, 15] [6, 11, 16] [7, 12, 17, 18, 19, 20, 21, 22, 23, 24, 25, 26] [0, 0, 0, 3, 3, 1, 3, 3, 1, 3, 3, 1] (fun w' => w'.cell? ⟨bs1, k * 17 + 3, none⟩ = some (.slice (q2 k).p.a (q2 k).p.n (q2 k).p.c) ∧ w'.cell? ⟨bs1, k * 17 + 10, none⟩ = some (.slice (q2 k).r.a (q2 k).r.n (q2 k).r.c) ∧ w'.cell? ⟨bs1, k * 17 + 11, none⟩ = some (.slice (q2 k).t.a (q2 k).t.n (q2 k).t.c)) (by kernel_rfl) (by kernel_rfl) (by decide +kernel) (by decide +kernel) C0 ?_
      intro kne
      simp only [pickIx, List.getElem?_cons_zero, List.getElem?_cons_succ]
      refine wpPre_move _ rfl rfl rfl ?_
      (try simp only [Act.put, List.setIfInBounds_toArray, List.set_cons_zero, List.set_cons_succ])
      refine wpPre_move _ rfl rfl rfl ?_
      (try simp only [Act.put, List.setIfInBounds_toArray, List.set_cons_zero, List.set_cons_succ])
      refine wpPre_move _ rfl rfl rfl ?_
      (try simp only [Act.put, List.setIfInBounds_toArray, List.set_cons_zero, List.set_cons_succ])
      refine wpPre_move _ rfl rfl rfl ?_
      (try simp only [Act.put, List.setIfInBounds_toArray, List.set_cons_zero, List.set_cons_succ])
      refine wpPre_nilCheck _ rfl rfl rfl ?_
      (try simp only [Act.put, List.setIfInBounds_toArray, List.set_cons_zero, List.set_cons_succ])
      refine wpPre_of (v := .pointer (some ⟨bs1, k * 17 + 3, none⟩)) rfl (fun w => rfl) ?_
      (try simp only [Act.put, List.setIfInBounds_toArray, List.set_cons_zero, List.set_cons_succ])
      refine wpPre_move _ rfl rfl rfl ?_
      (try simp only [Act.put, List.setIfInBounds_toArray, List.set_cons_zero, List.set_cons_succ])
      refine wpPre_nilCheck _ rfl rfl rfl ?_
      (try simp only [Act.put, List.setIfInBounds_toArray, List.set_cons_zero, List.set_cons_succ])
      refine wpPre_of (v := .pointer (some ⟨bs1, k * 17 + 10, none⟩)) rfl (fun w => rfl) ?_
      (try simp only [Act.put, List.setIfInBounds_toArray, List.set_cons_zero, List.set_cons_succ])
      refine wpPre_move _ rfl rfl rfl ?_
      (try simp only [Act.put, List.setIfInBounds_toArray, List.set_cons_zero, List.set_cons_succ])
      refine wpPre_nilCheck _ rfl rfl rfl ?_
      (try simp only [Act.put, List.setIfInBounds_toArray, List.set_cons_zero, List.set_cons_succ])
      refine wpPre_of (v := .pointer (some ⟨bs1, k * 17 + 11, none⟩)) rfl (fun w => rfl) ?_
      (try simp only [Act.put, List.setIfInBounds_toArray, List.set_cons_zero, List.set_cons_succ])
      unfold wpPre
      repeat (first | ((first | (refine wpQuiet_ld _ _ rfl ⟨bs1, k * 17 + 3, none⟩ rfl rfl (by decide +kernel) (fun w hC => hC.1) ?_) | (refine wpQuiet_ld _ _ rfl ⟨bs1, k * 17 + 10, none⟩ rfl rfl (by decide +kernel) (fun w hC => hC.2.1) ?_) | (refine wpQuiet_ld _ _ rfl ⟨bs1, k * 17 + 11, none⟩ rfl rfl (by decide +kernel) (fun w hC => hC.2.2) ?_)); simp only [Act.put, List.setIfInBounds_toArray, List.set_cons_zero, List.set_cons_succ]) | go_big_quiet_step (fail))
      refine wpQuiet_nil ?_
      clear kne C0
      replace HS := hide HS.out.drew
      generalize World.drew _ = Wd at *
      refine wpRest_cons rfl rfl fun K hK => ?_
      go_big_op
      refine (hP.out _ HS.out.below).mono ?_
      rintro e W3 ⟨Dp, sp, rfl, np, hL, hDD, hb⟩
      have HS1 := hide (HS.out.push hb (lisI Dp (szL 0) sp ((M.at k).li 0)) (lisI_loc _ _ _ _) ⟨hL.is, hL.own⟩ hDD)
      clear HS hL hDD hb
      replace HS := HS1
      clear HS1
      refine hK _ _ (fun _ => InC.mk (hcl.out _ (HS.out.get 1 (x := halfI D ⟨A1.w, A1.s, q2, A1.e⟩ M (6 + 3 * k)) rfl).2)) ?_
      clear hK K
      (try simp only [Act.put, List.setIfInBounds_toArray, List.set_cons_zero, List.set_cons_succ])
      refine wpRest_cons rfl rfl fun K hK => ?_
      go_big_op
      refine (hR.out _ HS.out.below).mono ?_
      rintro e W4 ⟨Dr, sr, rfl, nr, hL, hDD, hb⟩
      have HS1 := hide (HS.out.push hb (lisI Dr (szL 1) sr ((M.at k).li 1)) (lisI_loc _ _ _ _) ⟨hL.is, hL.own⟩ hDD)
      clear HS hL hDD hb
      replace HS := HS1
      clear HS1
      refine hK _ _ (fun _ => InC.mk (hcl.out _ (HS.out.get 2 (x := halfI D ⟨A1.w, A1.s, q2, A1.e⟩ M (6 + 3 * k)) rfl).2)) ?_
      clear hK K
      (try simp only [Act.put, List.setIfInBounds_toArray, List.set_cons_zero, List.set_cons_succ])
      refine wpRest_cons rfl rfl fun K hK => ?_
      go_big_op
      refine (hT.out _ HS.out.below).mono ?_
      rintro e W5 ⟨Dt, st, rfl, nt, hL, hDD, hb⟩
      have HS1 := hide (HS.out.push hb (lisI Dt (szL 2) st ((M.at k).li 2)) (lisI_loc _ _ _ _) ⟨hL.is, hL.own⟩ hDD)
      clear HS hL hDD hb
      replace HS := HS1
      clear HS1
      refine hK _ _ (fun _ => InC.mk (hcl.out _ (HS.out.get 3 (x := halfI D ⟨A1.w, A1.s, q2, A1.e⟩ M (6 + 3 * k)) rfl).2)) ?_
      clear hK K
      (try simp only [Act.put, List.setIfInBounds_toArray, List.set_cons_zero, List.set_cons_succ])
      refine wpRest_nilCheck _ rfl rfl rfl ?_
      (try simp only [Act.put, List.setIfInBounds_toArray, List.set_cons_zero, List.set_cons_succ])
      refine wpRest_of (v := .pointer (some ⟨bs1, k * 17 + 3, none⟩)) rfl (fun w => rfl) ?_
      (try simp only [Act.put, List.setIfInBounds_toArray, List.set_cons_zero, List.set_cons_succ])
      refine wpRest_cons rfl rfl fun K hK => ?_
      refine stw_storeH HS 3 2 0 (by decide) rfl rfl (by decide) hlt hbs1 _ _ _ rfl _ rfl rfl rfl (by decide +kernel) ?_
      clear HS
      intro W6 HS
      refine hK _ _ (fun h => by cases h) ?_
      clear hK K
      (try simp only [Act.put, List.setIfInBounds_toArray, List.set_cons_zero, List.set_cons_succ])
      refine wpRest_nilCheck _ rfl rfl rfl ?_
      (try simp only [Act.put, List.setIfInBounds_toArray, List.set_cons_zero, List.set_cons_succ])
      refine wpRest_of (v := .pointer (some ⟨bs1, k * 17 + 10, none⟩)) rfl (fun w => rfl) ?_
      (try simp only [Act.put, List.setIfInBounds_toArray, List.set_cons_zero, List.set_cons_succ])
      refine wpRest_cons rfl rfl fun K hK => ?_
      refine stw_storeH HS 3 1 1 (by decide) rfl rfl (by decide) hlt hbs1 _ _ _ rfl _ rfl rfl rfl (by decide +kernel) ?_
      clear HS
      intro W7 HS
      refine hK _ _ (fun h => by cases h) ?_
      clear hK K
      (try simp only [Act.put, List.setIfInBounds_toArray, List.set_cons_zero, List.set_cons_succ])
      refine wpRest_nilCheck _ rfl rfl rfl ?_
      (try simp only [Act.put, List.setIfInBounds_toArray, List.set_cons_zero, List.set_cons_succ])
      refine wpRest_of (v := .pointer (some ⟨bs1, k * 17 + 11, none⟩)) rfl (fun w => rfl) ?_
      (try simp only [Act.put, List.setIfInBounds_toArray, List.set_cons_zero, List.set_cons_succ])
      refine wpRest_cons rfl rfl fun K hK => ?_
      refine stw_storeH HS 3 0 2 (by decide) rfl rfl (by decide) hlt hbs1 _ _ _ rfl _ rfl rfl rfl (by decide +kernel) ?_
      clear HS
      intro W8 HS
      refine hK _ _ (fun h => by cases h) ?_
      clear hK K
      (try simp only [Act.put, List.setIfInBounds_toArray, List.set_cons_zero, List.set_cons_succ])
      refine wpRest_nil ?_
      refine NoPanic.normal ?_
      obtain ⟨D', A3, HS', hA'⟩ : ∃ (D' : Nat → Prop) (A3 : MacM), Hid (St w W8 [halfI D' A3 M (6 + 3 * (k + 1)), blkI br zeroML, blkI bm (machL A1 M)]) ∧ Hid (A3.w = A1.w ∧ A3.s = A1.s ∧ A3.e = A1.e ∧ ∀ j, k + 1 ≤ j → A3.q j = A.q j) := by
        refine ⟨_, _, HS.out.tail.tail.tail, rfl, rfl, rfl, fun j hj => ?_⟩
        show updM (updM (updM q2 k _) k _) k _ j = A.q j
        unfold updM
        rw [if_neg (by omega), if_neg (by omega), if_neg (by omega)]
        exact hA4.out j (by omega)
      clear HS hP hR hT hcl hqk hA4
      go_wp2
      go_roundw
      case rel =>
        repeat apply Exists.intro
        exact ⟨⟨k + 1, D', A3, by omega, by go_num, HS', hA'⟩, by first | rfl | (rw [hbs1]; rfl)⟩
      case measure => simp [intOf]; omega
    · obtain rfl : k = A1.s.n := by omega
      obtain ⟨w2, s2, q2, e2⟩ := A2
      obtain ⟨hA1, hA2, hA3, _⟩ := hA.out
      replace hA1 : w2 = A1.w := hA1
      replace hA2 : s2 = A1.s := hA2
      replace hA3 : e2 = A1.e := hA3
      subst hA1 hA2 hA3
      have hE := hide fun (W : World) (hb : Below w.heap.size w W) => anewEvent_any A.e M.trace W (HM.out.below hb).trace
      rw [← he.out] at hE
      clear hA
      go_wp2_with (first | ((with_reducible refine isList ?_); first | (refine st_load1 HS 2 rfl _ _ rfl _ rfl rfl (by decide +kernel) rfl ?_)))
      refine (hE.out _ HS.out.below).mono ?_
      rintro e W3 ⟨D5, se, rfl, hne, hL, hDD, hb⟩
      have HS1 := hide (HS.out.push hb (slI D5 88 4 se M.trace) (slI_loc _ _ _ _ _) hL hDD)
      have HS2 := hide (HS1.out.give 1 0 (x := halfI D ⟨A1.w, A1.s, q2, A1.e⟩ M (6 + 3 * A1.s.n)) (y := slI D5 88 4 se M.trace) rfl rfl (by decide) (machI (fun k => D k ∨ D5 k) ⟨A1.w, A1.s, q2, se⟩ M) (machI_loc _ _ _) (HalfOwn.whole (HS1.out.get 1 (x := halfI D ⟨A1.w, A1.s, q2, A1.e⟩ M (6 + 3 * A1.s.n)) rfl).2 HM.out.four HM.out.clocks (fun i hi => (HM.out.sess.2.2.2 i (by have := hsn.out; have : i < A1.s.n := hi; omega)).1) (HS1.out.get 0 (x := slI D5 88 4 se M.trace) rfl) (HS1.out.apart 1 0 _ _ rfl rfl (by decide))) fun k hk => hk)
      clear HS HS1 hb hL hDD hE
      replace HS : Hid (St w W3 [machI (fun k => D k ∨ D5 k) ⟨A1.w, A1.s, q2, se⟩ M, blkI br zeroML, blkI bm (machL A1 M)]) := hide HS2.out.tail
      clear HS2
      generalize (fun k => D k ∨ D5 k) = D6 at HS
      replace hne := hide hne
      go_upto_region 10 with (first | ((with_reducible refine isList ?_); first | (refine st_store1 HS 2 rfl _ _ _ rfl _ rfl rfl rfl (by decide +kernel) rfl rfl ?_; clear HS; intro W HS)))
      replace HS : Hid (St w W [machI D6 ⟨A1.w, A1.s, q2, se⟩ M, blkI br zeroML, blkI bm (machL ⟨A1.w, A1.s, q2, se⟩ M)]) := HS
      generalize (⟨A1.w, A1.s, q2, se⟩ : MacM) = A5 at HS
      go_wp2_with (first | ((with_reducible refine isList ?_); first | (refine st_loadA HS 2 rfl _ _ rfl rfl rfl (by decide +kernel) (by kernel_rfl) ?_) | (refine st_storeA HS 1 rfl _ _ _ rfl rfl rfl _ rfl rfl (by kernel_rfl) rfl ?_; clear HS; intro W HS)))
      exact bodyPost_ret (ret_mach Tryz.results20 (HS.out.blk 1 rfl) rfl rfl) rfl ⟨A5, rfl, (show MachOwn D6 _ A5 M from HS.out.get 0 (x := machI D6 A5 M) rfl).mono (HS.out.here 0 _ rfl).2.2, HS.out.below⟩
end Go.Proofs.YtnjognmnbpcaaaaGreat
