/-
  The landed stand.AtCode: does a session run, and does one of some codes stand there? slices.Contains of numbers.
-/
import Derived.Test.YtjjokalheloimaaGreatZlbb
import Derived.Test.YtjjokalheloimaaGreatZlag
namespace Go.Proofs.YtjjokalheloimaaGreat
open Go.RowKit
set_option linter.unusedSimpArgs false
set_option linter.unusedVariables false
/-- Is it one of the first n? -/
def inTo (z : Nat → Int) (v : Int) : Nat → Bool
  | 0 => false
  | n + 1 => inTo z v n || decide (v = z n)
theorem inTo_yes {z : Nat → Int} {v : Int} : ∀ {n k : Nat}, k < n → v = z k → inTo z v n = true
  | n + 1, k, hk, h => by
    unfold inTo
    by_cases e : k = n
    · subst e; rw [decide_eq_true h, Bool.or_true]
    · rw [inTo_yes (show k < n by omega) h, Bool.true_or]
set_option maxHeartbeats 1000000 in
theorem slicesIndex_any (a : Option Addr) (n c : Nat) (z : Nat → Int) (v : Int) (w : World) (hn : n ≤ 1152921504606846976) (h : Row w a n fun i => .int .i64 (z i)) :
    Calls Tryz.prog 172 #[.slice a n c, .int .i64 v] w fun e w' => ∃ r : Int, e = .returned (.int .i64 r) ∧ decide (0 ≤ r) = inTo z v n ∧ w = w' := by
  go_enter Tryz.func172, Tryz.ntmps172
  go_wp2
  go_loopw [8] (fun i wr => ∃ k : Nat, k ≤ n ∧ i = .int .i64 k ∧ inTo z v k = false ∧ w = wr) (fun i _ => n - (intOf i).toNat)
  case atStart => exact ⟨0, Nat.zero_le _, rfl, rfl, rfl⟩
  case round =>
    obtain ⟨k, hk, rfl, hs, rfl⟩ := hrel
    replace hs := hide hs
    by_cases hlt : k < n
    · have i1 : (k : Int) < (n : Int) := by omega
      obtain ⟨b, off, rfl, hb, c0⟩ := h k hlt
      replace c0 : w.cell? ⟨b, off + k, none⟩ = some (.int .i64 (z k)) := c0
      obtain ⟨u, hu⟩ : ∃ u, u = z k := ⟨_, rfl⟩
      rw [← hu] at c0
      replace hu := hide hu
      by_cases hv : v = u
      · have hI := hide (inTo_yes hlt (hv.trans hu.out))
        subst hv
        clear h
        go_wp2
        go_ret
        exact ⟨k, rfl, by rw [hI.out, decide_eq_true (by omega : (0 : Int) ≤ k)], rfl⟩
      · have hI : Hid (inTo z v (k + 1) = false) := by
          show inTo z v (k + 1) = false
          rw [inTo, hs.out, Bool.false_or, decide_eq_false (by rw [← hu.out]; exact hv)]
        have hvb : (v == u) = false := by simpa using hv
        clear h
        go_wp2
        go_roundw
        case rel => exact ⟨k + 1, by omega, by go_num, hI.out, trivial⟩
        case measure => simp [intOf]; omega
    · obtain rfl : k = n := by omega
      clear h
      go_wp2
      go_ret
      exact ⟨-1, rfl, hs.out.symm, rfl⟩
theorem slicesContains_any (a : Option Addr) (n c : Nat) (z : Nat → Int) (v : Int) (w : World) (hn : n ≤ 1152921504606846976) (h : Row w a n fun i => .int .i64 (z i)) :
    Calls Tryz.prog 150 #[.slice a n c, .int .i64 v] w fun e w' => e = .returned (.bool (inTo z v n)) ∧ w = w' := by
  have hC := hide (slicesIndex_any a n c z v w hn h)
  clear h hn
  go_enter Tryz.func150, Tryz.ntmps150
  go_wp2_with fail
  refine hC.out.mono ?_
  rintro e w' ⟨r, rfl, hr, rfl⟩
  clear hC
  replace hr := hide hr
  go_wp2
  go_ret
  exact ⟨ret_bool hr.out, rfl⟩
/-- Does a session run, and does one of these codes stand there? -/
def atCodeP (M : PMach) (i : Int) (z : Nat → Int) (n : Nat) : Bool := hereP M i && ((M.at i.toNat).runs && inTo z ((M.at i.toNat).ins 0) n)
set_option maxRecDepth 100000 in
set_option maxHeartbeats 2000000 in
theorem standAtCode_any (A : MacM) (M : PMach) (i : Int) (a : Option Addr) (n c : Nat) (z : Nat → Int) (w : World) (h : MachIs w A M) (hn : n ≤ 1152921504606846976) (hr : Row w a n fun i => .int .i64 (z i)) :
    Calls Tryz.prog 97 #[machA A M, .int .i64 i, .slice a n c] w fun e w' => e = .returned (.bool (atCodeP M i z n)) ∧ Below w.heap.size w w' := by
  have hX := hide h.sess.1
  have hHas := hide fun (W : World) (hb : Below w.heap.size w W) => undoHas_any A M i W (h.below hb)
  have hrng := hide fun (k : Nat) (hk : k < A.s.n) (W : World) (hb : Below w.heap.size w W) => (h.below hb).sess.range hk
  have hSes : Hid (∀ (k : Nat) (hk : k < A.s.n) (W : World) (hb : Below w.heap.size w W), SessIs W (A.q k) (M.at k)) := fun k hk W hb => (h.below hb).sess.2.2.2 k hk
  have hCon := hide fun (v : Int) (W : World) (hb : Below w.heap.size w W) => slicesContains_any a n c z v W hn (hr.below hb (Nat.le_refl _))
  clear hr
  obtain ⟨V0, hV0⟩ : ∃ V0, V0 = machA A M := ⟨_, rfl⟩
  rw [← hV0]
  have HV : Hid (V0.cells = (machL A M).toArray) := by rw [hV0]; rfl
  clear hV0
  have HM := hide h
  have HS := hide (St.refl w)
  clear h
  go_enter Tryz.func97, Tryz.ntmps97
  go_wp2_with (first | ((with_reducible refine isList ?_); first | (refine st_box HS _ _ rfl rfl (machL A M) HV.out ?_; clear HS; intro W bm HS) | (refine st_loadA HS 0 rfl _ _ rfl rfl rfl (by decide +kernel) (by kernel_rfl) ?_)))
  refine (hHas.out _ HS.out.below).mono ?_
  (rintro e Wq ⟨rfl, hb⟩; have HSq := hide (HS.out.on hb); clear HS hb; replace HS := HSq; clear HSq)
  clear hHas
  cases hh : hereP M i
  case false =>
    go_wp2
    go_ret
    exact ⟨ret_bool (by unfold atCodeP; rw [hh]; rfl), HS.out.below⟩
  obtain ⟨hmay, k, rfl, hk0⟩ := hereP_yes hh
  have hk : k < A.s.n := by have := hX.out; omega
  have hok := here_sess hmay hk0
  have i2 : (k : Int) < (A.s.n : Int) := by omega
  have eA : Hid (atCodeP M k z n = ((M.at k).runs && inTo z ((M.at k).ins 0) n)) := by show _ = _; unfold atCodeP; rw [hh, Int.toNat_natCast]; rfl
  obtain ⟨p, hp⟩ : ∃ p : Nat, lz (M.at k).num 4 = p := ⟨(lz (M.at k).num 4).toNat, (Int.toNat_of_nonneg hok.pc.1).symm⟩
  have hpn : (M.at k).prog.length / 4 = (A.q k).p.n := by
    have h1 : (M.at k).prog.length = (A.q k).p.n * 4 := (HM.out.sess.2.2.2 k hk).2.1.1
    rw [h1, Nat.mul_div_cancel _ (by decide)]
  have hrun : Hid ((M.at k).runs = (decide (lz (M.at k).num 3 = 0) && decide (p < (A.q k).p.n))) := by
    show (M.at k).runs = _
    unfold PSess.runs PSess.step PSess.pc
    rw [hp, hpn]
    congr 1
    exact decide_eq_decide.2 (by omega)
  have hins : Hid ((M.at k).ins 0 = lz (M.at k).prog (p * 4)) := by
    show (M.at k).ins 0 = _
    unfold PSess.ins PSess.pc
    rw [hp, Int.toNat_natCast, Nat.add_zero]
  clear hh hok hmay hpn
  obtain ⟨bs, off, hbs, _, hR⟩ := hrng.out k hk _ HS.out.below
  replace hR := hide hR
  go_upto_region 3 with fail
  go_upto_region 4 with (first | ((with_reducible refine isList ?_); first | (refine st_load1 HS 0 rfl _ _ rfl _ rfl rfl (by decide +kernel) rfl ?_) | (refine wpList_load_at _ _ rfl rfl bs (off + k * 17) rfl (sessOf (A.q k) (M.at k)) (by decide +kernel) (by kernel_rfl) hR.out ?_) | (refine st_alloc HS _ rfl rfl zeroSL zeroS ?_; clear HS; intro W b7 HS) | (refine st_storeA HS 0 rfl _ _ _ rfl rfl rfl _ rfl rfl (by kernel_rfl) rfl ?_; clear HS; intro W HS)))
  replace HS : Hid (St w W [blkI b7 (sessL (lz (M.at k).num) (.slice (A.q k).p.a (A.q k).p.n (A.q k).p.c) (.slice (A.q k).r.a (A.q k).r.n (A.q k).r.c) (.slice (A.q k).t.a (A.q k).t.n (A.q k).t.c)), blkI bm (machL A M)]) := HS
  clear hR hbs
  have d3 : W.cell? ⟨b7, 3, none⟩ = some (.slice (A.q k).p.a (A.q k).p.n (A.q k).p.c) := (HS.out.blk 0 rfl).cell 3 _ rfl
  have d4 : W.cell? ⟨b7, 4, none⟩ = some (.int .i64 (lz (M.at k).num 3)) := (HS.out.blk 0 rfl).cell 4 _ rfl
  have d5 : W.cell? ⟨b7, 5, none⟩ = some (.int .i64 p) := by rw [← hp]; exact (HS.out.blk 0 rfl).cell 5 _ rfl
  replace hp := hide hp
  obtain ⟨st, hst⟩ : ∃ st, st = lz (M.at k).num 3 := ⟨_, rfl⟩
  rw [← hst] at d4 hrun
  clear hst
  by_cases h0 : st = 0
  · subst h0
    by_cases h1 : p < (A.q k).p.n
    · have i1 : (p : Int) < ((A.q k).p.n : Int) := by omega
      obtain ⟨bp, op, hbp, _, hI⟩ := (hSes.out k hk _ HS.out.below).2.1.four h1
      have c0 : W.cell? ⟨bp, op + p * 4, none⟩ = some (.int .i64 (lz (M.at k).prog (p * 4))) := hI 0 _ rfl
      rw [hbp] at d3
      clear hI hbp
      go_wp2_with fail
      refine (hCon.out _ _ HS.out.below).mono ?_
      rintro e w' ⟨rfl, rfl⟩
      clear d3 d4 d5 c0
      go_wp2
      go_ret
      exact ⟨ret_bool (by rw [eA.out, hrun.out, hins.out, decide_eq_true h1]; simp), HS.out.below⟩
    · have i1 : ¬ (p : Int) < ((A.q k).p.n : Int) := by omega
      have E := hide h1
      clear h1
      go_wp2
      go_ret
      exact ⟨ret_bool (by rw [eA.out, hrun.out, decide_eq_false E.out, Bool.and_false, Bool.false_and]), HS.out.below⟩
  · have hb : (st == 0) = false := by simpa using h0
    have E := hide h0
    clear h0
    go_wp2
    go_ret
    exact ⟨ret_bool (by rw [eA.out, hrun.out, decide_eq_false E.out, Bool.false_and, Bool.false_and]), HS.out.below⟩
end Go.Proofs.YtjjokalheloimaaGreat
